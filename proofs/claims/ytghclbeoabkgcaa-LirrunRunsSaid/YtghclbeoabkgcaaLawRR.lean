/- The statement LirrunRuns of layer 16: it returns true for all inputs. -/
import Derived.Test.YtghclbeoabkgcaaRows
import Derived.Test.YtghclbeoabkgcaaGM
namespace Go.Proofs.Ytghclbeoabkgcaa
open Go Go.RowKit Go.ChangeShapes Go.WideShapes Go.ChangeAt Pl
set_option linter.unusedVariables false

theorem wf_take {l t : List Q5} (h : ∀ x ∈ l, x.wf) (ht : t = l.take 60) : ∀ x ∈ t, x.wf := by
  subst ht
  exact fun x hx => h x (List.mem_of_mem_take hx)

theorem flat_of {w : World} {b off : Nat} {l : List Q5} (h : ∀ k x, l[k]? = some x → w.cell? ⟨b, off + k * 5, none⟩ = some (.int .i64 x.o) ∧ w.cell? ⟨b, off + k * 5 + 1, none⟩ = some (.int .i64 x.d) ∧ w.cell? ⟨b, off + k * 5 + 2, none⟩ = some (.int .i64 x.a) ∧ w.cell? ⟨b, off + k * 5 + 3, none⟩ = some (.int .i64 x.b) ∧ w.cell? ⟨b, off + k * 5 + 4, none⟩ = some (.int .i32 x.i)) :
    ∀ j u, (flat l)[j]? = some u → w.cell? ⟨b, off + j, none⟩ = some u := by
  induction l generalizing off with
  | nil => intro j u hj; simp [flat] at hj
  | cons x l ih =>
    intro j u hj
    obtain ⟨c0, c1, c2, c3, c4⟩ := h 0 x rfl
    have e : flat (x :: l) = x.cells ++ flat l := rfl
    rw [e] at hj
    have hl : x.cells.length = 5 := rfl
    by_cases hj5 : j < 5
    · rw [List.getElem?_append_left (by rw [hl]; exact hj5)] at hj
      rw [Nat.zero_mul] at c0 c1 c2 c3 c4
      have : j = 0 ∨ j = 1 ∨ j = 2 ∨ j = 3 ∨ j = 4 := by omega
      rcases this with rfl | rfl | rfl | rfl | rfl <;> cases hj
      · exact c0
      · exact c1
      · exact c2
      · exact c3
      · exact c4
    · rw [List.getElem?_append_right (by rw [hl]; omega), hl] at hj
      have := ih (off := off + 5) (fun k y hy => by
        have := h (k + 1) y hy
        rwa [show off + (k + 1) * 5 = off + 5 + k * 5 by omega] at this) (j - 5) u hj
      rwa [show off + 5 + (j - 5) = off + j by omega] at this
theorem l5_put {w : World} {base : Nat} {v : Value} {t : List Q5} (h : w.ownsRow base 29 5 v (0 + t.length) ([] ++ flat t)) (hne : t ≠ []) (hn : t.length ≤ 1000) :
    ∃ g c, v = .slice (some ⟨g, 0, none⟩) t.length c ∧ base ≤ g ∧ L5 w (some ⟨g, 0, none⟩) t := by
  rw [Nat.zero_add, List.nil_append] at h
  have hp : 0 < t.length := List.length_pos_iff.2 hne
  have hlt := h.lt
  have h' := h
  obtain ⟨_, ⟨hv, hn0⟩ | ⟨g, cap, cur, hv, hg, hh, hc, hcm, _⟩⟩ := h
  · omega
  · refine ⟨g, cap, hv, hg, l5_mk (by omega) (hlt g (by rw [hv]; rfl)).2 fun j u hj => ?_⟩
    have := h'.cells (g := g) (by rw [hv]; rfl) j u hj
    rw [add_at] at this
    exact this

set_option maxRecDepth 100000 in
set_option maxHeartbeats 4000000 in
theorem lruns_a (w : World) (a0 : Option Addr) (c0 : Nat) (l0 t : List Q5) (a1 : Option Addr) (c1 : Nat) (l1 : List Nat) (fu : Int) (w0 : L5In w a0 l0 c0) (w1 : SliceIn w a1 l1 c1) (ht : t = l0.take 60) (hF : (400 : Int) < fu) (he : t = []) :
    Calls Try.prog 5 #[.slice a0 l0.length c0, .slice a1 l1.length c1, .int .i64 fu] w fun e w' => e = .returned (.bool true) ∧ Below w.heap.size w w' := by
  have HT := Lib.hid ht
  have hll : t.length ≤ 60 := by rw [ht, List.length_take]; omega
  have WF := Lib.hid (wf_take w0.2.2.1 ht)
  have W0 := Lib.hid w0
  have W1 := Lib.hid w1
  have HEM := Lib.hid he
  have tF : decide ((400 : Int) < fu) = true := by simp; omega
  obtain ⟨i0, hi0, hz0, hz1, hz2⟩ := info_parts info_lopF
  clear ht w0 w1 he
  go_enter Try.func5, Try.ntmps5
  go_wp2_with fail
  refine (fewL_at a0 c0 l0 t w W0.out HT.out).mono ?_
  rintro e w3 ⟨a3, c3, rfl, s3, b3⟩
  have S3 := Lib.hid s3
  have B3 := Lib.hid b3
  clear s3 b3
  go_wp2_with fail
  refine (mems_any a1 c1 l1 w3 (W1.out.later B3.out)).mono ?_
  rintro e w4 ⟨M, F, R, X, rfl, m4⟩
  have M4 := Lib.hid m4
  have B4 := Lib.hid (B3.out.trans (m4.b.mono B3.out.size))
  have S4 := Lib.hid (S3.out.later m4.b)
  clear m4
  have OWN0 := Lib.hid (own_emptyL w4)
  have BL0 := Lib.hid ((Below.refl w4.heap.size w4).alloc (Nat.le_refl _) (.cells #[] 29))
  have HL0 := Lib.hid (show t.length = 0 by rw [HEM.out]; rfl)
  go_wp2_with (at_builtin; refine wpList_append_zero rfl (.tmp 25) (.tmp 26) 27 rfl 29 i0 _ Try.underlying27 hi0 hz0 w4.heap.size rfl a3 c3 (show Value.slice a3 t.length c3 = Value.slice a3 0 c3 by rw [HL0.out]) ?_)
  have S7 := Lib.hid (show L5 (w4.alloc (.cells #[] 29)) (some ⟨w4.heap.size, 0, none⟩) t by rw [HEM.out]; exact ⟨by simp, .inl rfl⟩)
  have B47 := Lib.hid BL0.out
  generalize w4.alloc (.cells #[] 29) = w7 at *
  clear OWN0 BL0
  obtain ⟨g5, hg5⟩ : ∃ g5, w4.heap.size = g5 := ⟨_, rfl⟩
  have G5 := Lib.hid (show w4.heap.size ≤ g5 by omega)
  rw [hg5] at S7 ⊢
  obtain ⟨c5, hc5⟩ : ∃ c5, c5 = 0 := ⟨_, rfl⟩
  have hlt0 : (0 : Nat) = t.length := HL0.out.symm
  rw [show (Value.slice (some ⟨g5, 0, none⟩) 0 0) = Value.slice (some ⟨g5, 0, none⟩) t.length c5 by rw [HL0.out, hc5]]
  clear hlt0 hc5 hg5
  have B7 := Lib.hid (B4.out.trans (B47.out.mono B4.out.size))
  have S37 := Lib.hid (S4.out.later B47.out)
  have LO4 := Lib.hid M4.out.lo
  have HI4 := Lib.hid M4.out.hi
  obtain ⟨L0, v0, hx0, hag0, hln0⟩ := M4.out.x
  have X4 := Lib.hid hx0
  have AG4 := Lib.hid hag0
  have LN4 := Lib.hid hln0
  have XW4 := Lib.hid hx0.lt
  clear hx0 hag0 hln0
  have hc : checkS t = 0 := by rw [HEM.out]; exact check_nil
  obtain ⟨E, hp⟩ := prog1_of hc
  have HP := Lib.hid hp
  have HC := Lib.hid hc
  have MA := Lib.hid (show MemIs M F R K16.ff K16.rr K16.Fb (setB (noughts 128) 0 (l1.take 100)) w7 from M4.out.m.out (Out.of_below (fun _ => False) B47.out) id id id)
  have LT1 := Lib.hid (show M < w7.heap.size ∧ F < w7.heap.size ∧ R < w7.heap.size by have h1 := HI4.out; have := XW4.out; have := B47.out.size; omega)
  clear hp hc
  go_wp2_with fail
  refine (run_mem 400 t (some ⟨g5, 0, none⟩) c5 E w7 K16 M F R (setB (noughts 128) 0 (l1.take 100)) HP.out hll S7.out (.inr (fun x hx => by cases hx; show g5 ≠ R; have := G5.out; have := HI4.out; have := XW4.out; omega)) MA.out (banks16 (take100 l1)) LT1.out HC.out (by omega)).mono ?_
  rintro e w8 ⟨v8, rfl, own8, mm8, bl8, o8⟩
  obtain ⟨gv, cv, rfl, hcv, hgv1, hgv2⟩ := own_words64 own8
  have CV := Lib.hid hcv
  have MM8 := Lib.hid mm8
  have BL8 := Lib.hid bl8
  have O8 := Lib.hid o8
  have X8 := Lib.hid ((X4.out.out (Out.of_below (fun _ => False) B47.out) id (fun _ _ => id)).out o8 (by have := HI4.out; have := XW4.out; have := B47.out.size; rintro (h | h) <;> omega) (fun j hj => by have h1 := (X4.out.own.lt j hj); have := HI4.out; have := B47.out.size; rintro (h | h) <;> omega))
  have S38 := Lib.hid (l5_far S3.out ((Out.of_below _ (M4.out.b.trans (B47.out.mono M4.out.b.size))).trans (o8.mono (fun j h => by have := LO4.out; have := M4.out.b.size; have := B47.out.size; rcases h with h | h <;> omega))))
  have B8 := Lib.hid (show Below w.heap.size w w8 from o8.below B7.out (Nat.le_refl _) (by have := LO4.out; have := B3.out.size; have := B7.out.size; rintro j (h | h) <;> omega))
  have SZ8 := Lib.hid (show w7.heap.size ≤ w8.heap.size from o8.size)
  obtain ⟨rr, hrr⟩ : ∃ rr, runL K16 t E (400 : Int).toNat ⟨0, fun _ => 0, setB (noughts 128) 0 (l1.take 100)⟩ = rr := ⟨_, rfl⟩
  rw [hrr] at CV MM8 BL8 ⊢
  have HRR := Lib.hid hrr
  clear own8 mm8 bl8 o8 hcv hrr
  go_wp2_with fail
  refine (rcheck_any a3 c3 t w8 S38.out WF.out).mono ?_
  rw [HC.out]
  rintro e w9 ⟨rfl, b9⟩
  have B9 := Lib.hid b9
  have SZ9 := Lib.hid b9.size
  clear b9
  go_wp2_with fail
  generalize hMA : Array.setIfInBounds (Array.setIfInBounds _ _ _) _ _ = MAr
  have T0 := Lib.hid (machT_new w9 (X := X) (F := 400) hMA.symm)
  have BA := Lib.hid (show Below w9.heap.size w9 (w9.alloc (.cells MAr 49)) from (Below.refl _ _).alloc (Nat.le_refl _) _)
  obtain ⟨RB, hRB⟩ : ∃ RB, w9.heap.size = RB := ⟨_, rfl⟩
  have RBW := Lib.hid (show RB < (w9.alloc (.cells MAr 49)).heap.size by simp; omega)
  have RB9 := Lib.hid (show w9.heap.size ≤ RB ∧ RB ≤ w9.heap.size by omega)
  have XA := Lib.hid ((X8.out.out (Out.of_below (fun _ => False) B9.out) id (fun _ _ => id)).out (Out.of_below (fun _ => False) BA.out) id (fun _ _ => id))
  rw [hRB] at T0 ⊢
  generalize hWA : w9.alloc (.cells MAr 49) = WA at *
  clear hMA hRB hWA
  have S3A := Lib.hid ((S38.out.later B9.out).later BA.out)
  have VB := Lib.hid (show ∀ j, v0.ownBlock = some j → X + 1 ≤ j ∧ j < w4.heap.size from fun j hj => X4.out.own.lt j hj)
  have DM0 := Lib.hid (show DM RB X (X + 1) 400 K16 128 v0 WA (100 + 4 * 0) (fun _ => 0) (setB (noughts 128) 0 (l1.take 100)) ((0 : Nat) : Int) 0 WA from
    ⟨T0.out, ⟨L0, v0, by rw [show K16.Fb.length = 256 from noughts_lenM 256]; exact XA.out, AG4.out, by have := LN4.out; rw [List.length_take] at this; omega, fun j hj => .inl hj⟩, .refl _ _, (fun k => ⟨Int.le_refl 0, by show (0 : Int) < 4294967296; decide⟩), setB_len (take100 l1)⟩)
  have DOES := Lib.hid (show Calls Try.prog 22 #[.pointer (some ⟨RB, 0, none⟩), .slice a3 t.length c3, .int .i64 0, .int .i64 (t.length : Int)] WA (DoesEnd RB X (X + 1) 400 K16 128 v0 WA 100 t E 0 t.length ⟨0, fun _ => 0, setB (noughts 128) 0 (l1.take 100)⟩ 0) by
    have := rdoes_none RB X (X + 1) 400 K16 128 v0 WA 100 E a3 c3 ⟨0, fun _ => 0, setB (noughts 128) 0 (l1.take 100)⟩ WA rfl DM0.out
    rw [HEM.out]
    exact this)
  refine DOES.out.mono ?_
  rintro e wB ⟨rfl, n, s', tt, hre, hdm, hways, hbd⟩
  have HRUN := ways_run hre hways hbd
  rw [HRR.out] at HRUN
  subst HRUN
  have HDM := Lib.hid hdm
  clear hre hdm hways hbd DOES DM0
  obtain ⟨L9, v9, hx9, hag9, _, _⟩ := HDM.out.x
  have X9 := Lib.hid (show RefIs X (X + 1) 4096 256 2147483648 128 L9 v9 wB by have := hx9; rw [show K16.Fb.length = 256 from noughts_lenM 256] at this; exact this)
  have AG9 := Lib.hid hag9
  clear hx9 hag9
  have NSD := Lib.hid (show ∀ j, j < w8.heap.size → j ≠ X → (∀ q, v0.ownBlock = some q → q ≠ j) → ¬ SD0 RB X v0 WA j from fun j h1 h2 h3 h => by
    have := SZ9.out; have := RB9.out; have := RBW.out
    rcases h with h | h | h | h
    · omega
    · exact h2 h
    · exact h3 j h rfl
    · omega)
  have MM9 := Lib.hid (show MemIs M F R K16.ff K16.rr K16.Fb s'.b wB from (((MM8.out.out (Out.of_below (fun _ => False) B9.out) id id id).out (Out.of_below (fun _ => False) BA.out) id id id).out HDM.out.o
    (NSD.out _ (by have := LT1.out; have := SZ8.out; omega) (by have := HI4.out; omega) (fun q hq => by have := VB.out q hq; have := HI4.out; omega))
    (NSD.out _ (by have := LT1.out; have := SZ8.out; omega) (by have := HI4.out; omega) (fun q hq => by have := VB.out q hq; have := HI4.out; omega))
    (NSD.out _ (by have := LT1.out; have := SZ8.out; omega) (by have := HI4.out; omega) (fun q hq => by have := VB.out q hq; have := HI4.out; omega))))
  have NG := Lib.hid (NSD.out gv hgv2 (by have := XW4.out; have := B47.out.size; omega) (fun q hq => by have := VB.out q hq; have := B47.out.size; omega))
  have CV9 := Lib.hid (show ∀ k, k < 64 → wB.cell? ⟨gv, k, none⟩ = some (.int .u32 (s'.f k)) from fun k hk =>
    (HDM.out.o.cell (p := ⟨gv, k, none⟩) (by show gv < WA.heap.size; have := SZ9.out; have := BA.out.size; omega) NG.out).trans ((BA.out.cell (p := ⟨gv, k, none⟩) (by show gv < w9.heap.size; have := SZ9.out; omega)).trans ((B9.out.cell (p := ⟨gv, k, none⟩) hgv2).trans (CV.out k hk))))
  have BB := Lib.hid (show Below w.heap.size w wB from HDM.out.o.below ((B8.out.trans (B9.out.mono B8.out.size)).trans (BA.out.mono (by have := B8.out.size; have := SZ9.out; omega))) (Nat.le_refl _) (by
    have q1 := B8.out.size; have q2 := SZ9.out; have q3 := RB9.out; have q4 := RBW.out; have q5 := B4.out.size; have q6 := LO4.out; have q7 := HI4.out; have q8 := B3.out.size
    rintro j (h | h | h | h)
    · omega
    · omega
    · have := VB.out j h; omega
    · omega))
  have GVL := Lib.hid (show gv < wB.heap.size by have := SZ9.out; have := BA.out.size; have := HDM.out.o.size; omega)
  have MT := Lib.hid HDM.out.m
  have BLB := Lib.hid (show s'.b.length = 128 from HDM.out.bl)
  clear HDM NSD NG CV MM8 BL8 O8
  obtain ⟨ps, fs, bs⟩ := s'
  simp only at MT CV9 X9 AG9 MM9 BLB ⊢
  have RG := Lib.hid (show wB.rangeAt RB 1 (cellsF fs) from fun j v hj => by
    obtain ⟨hjl, _⟩ := List.getElem?_eq_some_iff.1 hj
    rw [cellsF_len] at hjl
    rw [cellsF_at _ hjl] at hj
    cases hj
    exact MT.out.v j hjl)
  have SZR := Lib.hid (show (Try.prog.info? 47).map (·.size) = some (cellsF fs).length by rw [cellsF_len]; kernel_rfl)
  have SAME := Lib.hid (sameV_eq gv cv (cellsF fs).toArray fs wB (fun k hk => by simpa using cellsF_at fs hk) CV9.out GVL.out)
  obtain ⟨cs, hcs⟩ : ∃ cs, cellsF fs = cs := ⟨_, rfl⟩
  rw [hcs] at RG SZR SAME
  clear hcs
  go_wp2_with (refine wpList_load_mid rfl 47 (.tmp 70) rfl RB 1 rfl cs _ RG.out Try.underlying47 rfl SZR.out ?_)
  refine SAME.out.mono ?_
  rintro e wC ⟨rfl, bC⟩
  have MC := Lib.hid (MT.out.out (Out.of_below (fun _ => False) bC) id)
  have XC := Lib.hid (X9.out.out (Out.of_below (fun _ => False) bC) id (fun _ _ => id))
  have MMC := Lib.hid (MM9.out.out (Out.of_below (fun _ => False) bC) id id id)
  have BC := Lib.hid (BB.out.trans (bC.mono BB.out.size))
  clear bC RG SAME
  have cst := MC.out.st
  have ctr := MC.out.tr
  rw [Nat.zero_add] at cst
  go_wp2_with fail
  refine (bytesV_eq (Fb := noughts 256) MMC.out (noughts_lenM 256) BLB.out XC.out AG9.out).mono ?_
  rintro e wD ⟨rfl, bD⟩
  have BD := Lib.hid (BC.out.trans (bD.mono BC.out.size))
  clear bD cst ctr
  go_wp2_with fail
  refine (lives16 wD).mono ?_
  rintro e wE ⟨rfl, bE⟩
  go_wp2_with fail
  go_ret
  exact ⟨rfl, BD.out.trans (bE.mono BD.out.size)⟩

set_option maxRecDepth 100000 in
set_option maxHeartbeats 4000000 in
theorem lruns_b (w : World) (a0 : Option Addr) (c0 : Nat) (l0 t : List Q5) (a1 : Option Addr) (c1 : Nat) (l1 : List Nat) (fu : Int) (w0 : L5In w a0 l0 c0) (w1 : SliceIn w a1 l1 c1) (ht : t = l0.take 60) (hF : fu ≤ 400) (he : t = []) :
    Calls Try.prog 5 #[.slice a0 l0.length c0, .slice a1 l1.length c1, .int .i64 fu] w fun e w' => e = .returned (.bool true) ∧ Below w.heap.size w w' := by
  have HT := Lib.hid ht
  have hll : t.length ≤ 60 := by rw [ht, List.length_take]; omega
  have WF := Lib.hid (wf_take w0.2.2.1 ht)
  have W0 := Lib.hid w0
  have W1 := Lib.hid w1
  have HEM := Lib.hid he
  have tF : decide ((400 : Int) < fu) = false := by simp; omega
  obtain ⟨i0, hi0, hz0, hz1, hz2⟩ := info_parts info_lopF
  clear ht w0 w1 he
  go_enter Try.func5, Try.ntmps5
  go_wp2_with fail
  refine (fewL_at a0 c0 l0 t w W0.out HT.out).mono ?_
  rintro e w3 ⟨a3, c3, rfl, s3, b3⟩
  have S3 := Lib.hid s3
  have B3 := Lib.hid b3
  clear s3 b3
  go_wp2_with fail
  refine (mems_any a1 c1 l1 w3 (W1.out.later B3.out)).mono ?_
  rintro e w4 ⟨M, F, R, X, rfl, m4⟩
  have M4 := Lib.hid m4
  have B4 := Lib.hid (B3.out.trans (m4.b.mono B3.out.size))
  have S4 := Lib.hid (S3.out.later m4.b)
  clear m4
  have OWN0 := Lib.hid (own_emptyL w4)
  have BL0 := Lib.hid ((Below.refl w4.heap.size w4).alloc (Nat.le_refl _) (.cells #[] 29))
  have HL0 := Lib.hid (show t.length = 0 by rw [HEM.out]; rfl)
  go_wp2_with (at_builtin; refine wpList_append_zero rfl (.tmp 25) (.tmp 26) 27 rfl 29 i0 _ Try.underlying27 hi0 hz0 w4.heap.size rfl a3 c3 (show Value.slice a3 t.length c3 = Value.slice a3 0 c3 by rw [HL0.out]) ?_)
  have S7 := Lib.hid (show L5 (w4.alloc (.cells #[] 29)) (some ⟨w4.heap.size, 0, none⟩) t by rw [HEM.out]; exact ⟨by simp, .inl rfl⟩)
  have B47 := Lib.hid BL0.out
  generalize w4.alloc (.cells #[] 29) = w7 at *
  clear OWN0 BL0
  obtain ⟨g5, hg5⟩ : ∃ g5, w4.heap.size = g5 := ⟨_, rfl⟩
  have G5 := Lib.hid (show w4.heap.size ≤ g5 by omega)
  rw [hg5] at S7 ⊢
  obtain ⟨c5, hc5⟩ : ∃ c5, c5 = 0 := ⟨_, rfl⟩
  have hlt0 : (0 : Nat) = t.length := HL0.out.symm
  rw [show (Value.slice (some ⟨g5, 0, none⟩) 0 0) = Value.slice (some ⟨g5, 0, none⟩) t.length c5 by rw [HL0.out, hc5]]
  clear hlt0 hc5 hg5
  have B7 := Lib.hid (B4.out.trans (B47.out.mono B4.out.size))
  have S37 := Lib.hid (S4.out.later B47.out)
  have LO4 := Lib.hid M4.out.lo
  have HI4 := Lib.hid M4.out.hi
  obtain ⟨L0, v0, hx0, hag0, hln0⟩ := M4.out.x
  have X4 := Lib.hid hx0
  have AG4 := Lib.hid hag0
  have LN4 := Lib.hid hln0
  have XW4 := Lib.hid hx0.lt
  clear hx0 hag0 hln0
  have hc : checkS t = 0 := by rw [HEM.out]; exact check_nil
  obtain ⟨E, hp⟩ := prog1_of hc
  have HP := Lib.hid hp
  have HC := Lib.hid hc
  have MA := Lib.hid (show MemIs M F R K16.ff K16.rr K16.Fb (setB (noughts 128) 0 (l1.take 100)) w7 from M4.out.m.out (Out.of_below (fun _ => False) B47.out) id id id)
  have LT1 := Lib.hid (show M < w7.heap.size ∧ F < w7.heap.size ∧ R < w7.heap.size by have h1 := HI4.out; have := XW4.out; have := B47.out.size; omega)
  clear hp hc
  go_wp2_with fail
  refine (run_mem fu t (some ⟨g5, 0, none⟩) c5 E w7 K16 M F R (setB (noughts 128) 0 (l1.take 100)) HP.out hll S7.out (.inr (fun x hx => by cases hx; show g5 ≠ R; have := G5.out; have := HI4.out; have := XW4.out; omega)) MA.out (banks16 (take100 l1)) LT1.out HC.out (by omega)).mono ?_
  rintro e w8 ⟨v8, rfl, own8, mm8, bl8, o8⟩
  obtain ⟨gv, cv, rfl, hcv, hgv1, hgv2⟩ := own_words64 own8
  have CV := Lib.hid hcv
  have MM8 := Lib.hid mm8
  have BL8 := Lib.hid bl8
  have O8 := Lib.hid o8
  have X8 := Lib.hid ((X4.out.out (Out.of_below (fun _ => False) B47.out) id (fun _ _ => id)).out o8 (by have := HI4.out; have := XW4.out; have := B47.out.size; rintro (h | h) <;> omega) (fun j hj => by have h1 := (X4.out.own.lt j hj); have := HI4.out; have := B47.out.size; rintro (h | h) <;> omega))
  have S38 := Lib.hid (l5_far S3.out ((Out.of_below _ (M4.out.b.trans (B47.out.mono M4.out.b.size))).trans (o8.mono (fun j h => by have := LO4.out; have := M4.out.b.size; have := B47.out.size; rcases h with h | h <;> omega))))
  have B8 := Lib.hid (show Below w.heap.size w w8 from o8.below B7.out (Nat.le_refl _) (by have := LO4.out; have := B3.out.size; have := B7.out.size; rintro j (h | h) <;> omega))
  have SZ8 := Lib.hid (show w7.heap.size ≤ w8.heap.size from o8.size)
  obtain ⟨rr, hrr⟩ : ∃ rr, runL K16 t E (fu : Int).toNat ⟨0, fun _ => 0, setB (noughts 128) 0 (l1.take 100)⟩ = rr := ⟨_, rfl⟩
  rw [hrr] at CV MM8 BL8 ⊢
  have HRR := Lib.hid hrr
  clear own8 mm8 bl8 o8 hcv hrr
  go_wp2_with fail
  refine (rcheck_any a3 c3 t w8 S38.out WF.out).mono ?_
  rw [HC.out]
  rintro e w9 ⟨rfl, b9⟩
  have B9 := Lib.hid b9
  have SZ9 := Lib.hid b9.size
  clear b9
  go_wp2_with fail
  generalize hMA : Array.setIfInBounds (Array.setIfInBounds _ _ _) _ _ = MAr
  have T0 := Lib.hid (machT_new w9 (X := X) (F := fu) hMA.symm)
  have BA := Lib.hid (show Below w9.heap.size w9 (w9.alloc (.cells MAr 49)) from (Below.refl _ _).alloc (Nat.le_refl _) _)
  obtain ⟨RB, hRB⟩ : ∃ RB, w9.heap.size = RB := ⟨_, rfl⟩
  have RBW := Lib.hid (show RB < (w9.alloc (.cells MAr 49)).heap.size by simp; omega)
  have RB9 := Lib.hid (show w9.heap.size ≤ RB ∧ RB ≤ w9.heap.size by omega)
  have XA := Lib.hid ((X8.out.out (Out.of_below (fun _ => False) B9.out) id (fun _ _ => id)).out (Out.of_below (fun _ => False) BA.out) id (fun _ _ => id))
  rw [hRB] at T0 ⊢
  generalize hWA : w9.alloc (.cells MAr 49) = WA at *
  clear hMA hRB hWA
  have S3A := Lib.hid ((S38.out.later B9.out).later BA.out)
  have VB := Lib.hid (show ∀ j, v0.ownBlock = some j → X + 1 ≤ j ∧ j < w4.heap.size from fun j hj => X4.out.own.lt j hj)
  have DM0 := Lib.hid (show DM RB X (X + 1) fu K16 128 v0 WA (100 + 4 * 0) (fun _ => 0) (setB (noughts 128) 0 (l1.take 100)) ((0 : Nat) : Int) 0 WA from
    ⟨T0.out, ⟨L0, v0, by rw [show K16.Fb.length = 256 from noughts_lenM 256]; exact XA.out, AG4.out, by have := LN4.out; rw [List.length_take] at this; omega, fun j hj => .inl hj⟩, .refl _ _, (fun k => ⟨Int.le_refl 0, by show (0 : Int) < 4294967296; decide⟩), setB_len (take100 l1)⟩)
  have DOES := Lib.hid (show Calls Try.prog 22 #[.pointer (some ⟨RB, 0, none⟩), .slice a3 t.length c3, .int .i64 0, .int .i64 (t.length : Int)] WA (DoesEnd RB X (X + 1) fu K16 128 v0 WA 100 t E 0 t.length ⟨0, fun _ => 0, setB (noughts 128) 0 (l1.take 100)⟩ 0) by
    have := rdoes_none RB X (X + 1) fu K16 128 v0 WA 100 E a3 c3 ⟨0, fun _ => 0, setB (noughts 128) 0 (l1.take 100)⟩ WA rfl DM0.out
    rw [HEM.out]
    exact this)
  refine DOES.out.mono ?_
  rintro e wB ⟨rfl, n, s', tt, hre, hdm, hways, hbd⟩
  have HRUN := ways_run hre hways hbd
  rw [HRR.out] at HRUN
  subst HRUN
  have HDM := Lib.hid hdm
  clear hre hdm hways hbd DOES DM0
  obtain ⟨L9, v9, hx9, hag9, _, _⟩ := HDM.out.x
  have X9 := Lib.hid (show RefIs X (X + 1) 4096 256 2147483648 128 L9 v9 wB by have := hx9; rw [show K16.Fb.length = 256 from noughts_lenM 256] at this; exact this)
  have AG9 := Lib.hid hag9
  clear hx9 hag9
  have NSD := Lib.hid (show ∀ j, j < w8.heap.size → j ≠ X → (∀ q, v0.ownBlock = some q → q ≠ j) → ¬ SD0 RB X v0 WA j from fun j h1 h2 h3 h => by
    have := SZ9.out; have := RB9.out; have := RBW.out
    rcases h with h | h | h | h
    · omega
    · exact h2 h
    · exact h3 j h rfl
    · omega)
  have MM9 := Lib.hid (show MemIs M F R K16.ff K16.rr K16.Fb s'.b wB from (((MM8.out.out (Out.of_below (fun _ => False) B9.out) id id id).out (Out.of_below (fun _ => False) BA.out) id id id).out HDM.out.o
    (NSD.out _ (by have := LT1.out; have := SZ8.out; omega) (by have := HI4.out; omega) (fun q hq => by have := VB.out q hq; have := HI4.out; omega))
    (NSD.out _ (by have := LT1.out; have := SZ8.out; omega) (by have := HI4.out; omega) (fun q hq => by have := VB.out q hq; have := HI4.out; omega))
    (NSD.out _ (by have := LT1.out; have := SZ8.out; omega) (by have := HI4.out; omega) (fun q hq => by have := VB.out q hq; have := HI4.out; omega))))
  have NG := Lib.hid (NSD.out gv hgv2 (by have := XW4.out; have := B47.out.size; omega) (fun q hq => by have := VB.out q hq; have := B47.out.size; omega))
  have CV9 := Lib.hid (show ∀ k, k < 64 → wB.cell? ⟨gv, k, none⟩ = some (.int .u32 (s'.f k)) from fun k hk =>
    (HDM.out.o.cell (p := ⟨gv, k, none⟩) (by show gv < WA.heap.size; have := SZ9.out; have := BA.out.size; omega) NG.out).trans ((BA.out.cell (p := ⟨gv, k, none⟩) (by show gv < w9.heap.size; have := SZ9.out; omega)).trans ((B9.out.cell (p := ⟨gv, k, none⟩) hgv2).trans (CV.out k hk))))
  have BB := Lib.hid (show Below w.heap.size w wB from HDM.out.o.below ((B8.out.trans (B9.out.mono B8.out.size)).trans (BA.out.mono (by have := B8.out.size; have := SZ9.out; omega))) (Nat.le_refl _) (by
    have q1 := B8.out.size; have q2 := SZ9.out; have q3 := RB9.out; have q4 := RBW.out; have q5 := B4.out.size; have q6 := LO4.out; have q7 := HI4.out; have q8 := B3.out.size
    rintro j (h | h | h | h)
    · omega
    · omega
    · have := VB.out j h; omega
    · omega))
  have GVL := Lib.hid (show gv < wB.heap.size by have := SZ9.out; have := BA.out.size; have := HDM.out.o.size; omega)
  have MT := Lib.hid HDM.out.m
  have BLB := Lib.hid (show s'.b.length = 128 from HDM.out.bl)
  clear HDM NSD NG CV MM8 BL8 O8
  obtain ⟨ps, fs, bs⟩ := s'
  simp only at MT CV9 X9 AG9 MM9 BLB ⊢
  have RG := Lib.hid (show wB.rangeAt RB 1 (cellsF fs) from fun j v hj => by
    obtain ⟨hjl, _⟩ := List.getElem?_eq_some_iff.1 hj
    rw [cellsF_len] at hjl
    rw [cellsF_at _ hjl] at hj
    cases hj
    exact MT.out.v j hjl)
  have SZR := Lib.hid (show (Try.prog.info? 47).map (·.size) = some (cellsF fs).length by rw [cellsF_len]; kernel_rfl)
  have SAME := Lib.hid (sameV_eq gv cv (cellsF fs).toArray fs wB (fun k hk => by simpa using cellsF_at fs hk) CV9.out GVL.out)
  obtain ⟨cs, hcs⟩ : ∃ cs, cellsF fs = cs := ⟨_, rfl⟩
  rw [hcs] at RG SZR SAME
  clear hcs
  go_wp2_with (refine wpList_load_mid rfl 47 (.tmp 70) rfl RB 1 rfl cs _ RG.out Try.underlying47 rfl SZR.out ?_)
  refine SAME.out.mono ?_
  rintro e wC ⟨rfl, bC⟩
  have MC := Lib.hid (MT.out.out (Out.of_below (fun _ => False) bC) id)
  have XC := Lib.hid (X9.out.out (Out.of_below (fun _ => False) bC) id (fun _ _ => id))
  have MMC := Lib.hid (MM9.out.out (Out.of_below (fun _ => False) bC) id id id)
  have BC := Lib.hid (BB.out.trans (bC.mono BB.out.size))
  clear bC RG SAME
  have cst := MC.out.st
  have ctr := MC.out.tr
  rw [Nat.zero_add] at cst
  go_wp2_with fail
  refine (bytesV_eq (Fb := noughts 256) MMC.out (noughts_lenM 256) BLB.out XC.out AG9.out).mono ?_
  rintro e wD ⟨rfl, bD⟩
  have BD := Lib.hid (BC.out.trans (bD.mono BC.out.size))
  clear bD cst ctr
  go_wp2_with fail
  refine (lives16 wD).mono ?_
  rintro e wE ⟨rfl, bE⟩
  go_wp2_with fail
  go_ret
  exact ⟨rfl, BD.out.trans (bE.mono BD.out.size)⟩

set_option maxRecDepth 100000 in
set_option maxHeartbeats 4000000 in
theorem lruns_c (w : World) (a0 : Option Addr) (c0 : Nat) (l0 t : List Q5) (a1 : Option Addr) (c1 : Nat) (l1 : List Nat) (fu : Int) (w0 : L5In w a0 l0 c0) (w1 : SliceIn w a1 l1 c1) (ht : t = l0.take 60) (hF : (400 : Int) < fu) (he : t ≠ []) :
    Calls Try.prog 5 #[.slice a0 l0.length c0, .slice a1 l1.length c1, .int .i64 fu] w fun e w' => e = .returned (.bool true) ∧ Below w.heap.size w w' := by
  have HT := Lib.hid ht
  have hll : t.length ≤ 60 := by rw [ht, List.length_take]; omega
  have WF := Lib.hid (wf_take w0.2.2.1 ht)
  have W0 := Lib.hid w0
  have W1 := Lib.hid w1
  have HEM := Lib.hid he
  have tF : decide ((400 : Int) < fu) = true := by simp; omega
  obtain ⟨i0, hi0, hz0, hz1, hz2⟩ := info_parts info_lopF
  clear ht w0 w1 he
  go_enter Try.func5, Try.ntmps5
  go_wp2_with fail
  refine (fewL_at a0 c0 l0 t w W0.out HT.out).mono ?_
  rintro e w3 ⟨a3, c3, rfl, s3, b3⟩
  have S3 := Lib.hid s3
  have B3 := Lib.hid b3
  clear s3 b3
  go_wp2_with fail
  refine (mems_any a1 c1 l1 w3 (W1.out.later B3.out)).mono ?_
  rintro e w4 ⟨M, F, R, X, rfl, m4⟩
  have M4 := Lib.hid m4
  have B4 := Lib.hid (B3.out.trans (m4.b.mono B3.out.size))
  have S4 := Lib.hid (S3.out.later m4.b)
  clear m4
  have OWN0 := Lib.hid (own_emptyL w4)
  have BL0 := Lib.hid ((Below.refl w4.heap.size w4).alloc (Nat.le_refl _) (.cells #[] 29))
  obtain ⟨b1, off, rfl, hb1w, hflat⟩ : ∃ b1 off, a3 = some ⟨b1, off, none⟩ ∧ b1 < w3.heap.size ∧ ∀ j u, (flat t)[j]? = some u → w3.cell? ⟨b1, off + j, none⟩ = some u := by
    obtain ⟨_, h | ⟨b1, off, h1, h2, h3⟩⟩ := S3.out
    · exact absurd h HEM.out
    · exact ⟨b1, off, h1, h2, flat_of h3⟩
  have hb14 : b1 < w4.heap.size := Nat.lt_of_lt_of_le hb1w M4.out.b.size
  have NEWS := Lib.hid (show ∀ j u, (flat t)[j]? = some u → (w4.alloc (.cells #[] 29)).cell? ((⟨b1, off, none⟩ : Addr).add j) = some u from fun j u hj => by
    rw [add_at]
    exact (BL0.out.cell (p := ⟨b1, off + j, none⟩) hb14).trans ((M4.out.b.cell (p := ⟨b1, off + j, none⟩) hb1w).trans (hflat j u hj)))
  have LNF := Lib.hid (flat_len t)
  have ONEF := Lib.hid (flat_one t)
  have MX := Lib.hid (show 0 + t.length ≤ maxLen by unfold maxLen; omega)
  have MXB := Lib.hid (show (0 + t.length) * 40 ≤ 140737488355328 by omega)
  have SZ := Lib.hid (show w4.heap.size ≤ (w4.alloc (.cells #[] 29)).heap.size by simp)
  clear hflat
  go_wp2_with (at_builtin; refine wpList_append_own _ rfl (.tmp 25) (.tmp 26) 27 rfl w4.heap.size 29 i0 (.agg #[.int .i64 0, .int .i64 0, .int .i64 0, .int .i64 0, .int .i32 0]) 5 40 Try.underlying27 hi0 hz0 hz1 hz2 rfl (by decide) (.slice (some ⟨w4.heap.size, 0, none⟩) 0 0) 0 [] rfl OWN0.out ⟨b1, off, none⟩ t.length c3 (flat t) rfl LNF.out NEWS.out ONEF.out MX.out MXB.out SZ.out ?_; intro v5 w7 hown hgrow hn7; obtain ⟨g5, c5, rfl, hG5, hL5⟩ := l5_put hown HEM.out (by omega); have S7 := Lib.hid hL5; have G5 := Lib.hid hG5; have B47 := Lib.hid (BL0.out.grown hgrow BL0.out.size (fun k hk => by cases hk; exact Nat.le_refl _)); clear hown hgrow hn7 hL5 hG5)
  clear OWN0 BL0 NEWS SZ
  have B7 := Lib.hid (B4.out.trans (B47.out.mono B4.out.size))
  have S37 := Lib.hid (S4.out.later B47.out)
  have LO4 := Lib.hid M4.out.lo
  have HI4 := Lib.hid M4.out.hi
  obtain ⟨L0, v0, hx0, hag0, hln0⟩ := M4.out.x
  have X4 := Lib.hid hx0
  have AG4 := Lib.hid hag0
  have LN4 := Lib.hid hln0
  have XW4 := Lib.hid hx0.lt
  clear hx0 hag0 hln0
  by_cases hc : checkS t = 0
  · obtain ⟨E, hp⟩ := prog1_of hc
    have HP := Lib.hid hp
    have HC := Lib.hid hc
    have MA := Lib.hid (show MemIs M F R K16.ff K16.rr K16.Fb (setB (noughts 128) 0 (l1.take 100)) w7 from M4.out.m.out (Out.of_below (fun _ => False) B47.out) id id id)
    have LT1 := Lib.hid (show M < w7.heap.size ∧ F < w7.heap.size ∧ R < w7.heap.size by have h1 := HI4.out; have := XW4.out; have := B47.out.size; omega)
    clear hp hc
    go_wp2_with fail
    refine (run_mem 400 t (some ⟨g5, 0, none⟩) c5 E w7 K16 M F R (setB (noughts 128) 0 (l1.take 100)) HP.out hll S7.out (.inr (fun x hx => by cases hx; show g5 ≠ R; have := G5.out; have := HI4.out; have := XW4.out; omega)) MA.out (banks16 (take100 l1)) LT1.out HC.out (by omega)).mono ?_
    rintro e w8 ⟨v8, rfl, own8, mm8, bl8, o8⟩
    obtain ⟨gv, cv, rfl, hcv, hgv1, hgv2⟩ := own_words64 own8
    have CV := Lib.hid hcv
    have MM8 := Lib.hid mm8
    have BL8 := Lib.hid bl8
    have O8 := Lib.hid o8
    have X8 := Lib.hid ((X4.out.out (Out.of_below (fun _ => False) B47.out) id (fun _ _ => id)).out o8 (by have := HI4.out; have := XW4.out; have := B47.out.size; rintro (h | h) <;> omega) (fun j hj => by have h1 := (X4.out.own.lt j hj); have := HI4.out; have := B47.out.size; rintro (h | h) <;> omega))
    have S38 := Lib.hid (l5_far S3.out ((Out.of_below _ (M4.out.b.trans (B47.out.mono M4.out.b.size))).trans (o8.mono (fun j h => by have := LO4.out; have := M4.out.b.size; have := B47.out.size; rcases h with h | h <;> omega))))
    have B8 := Lib.hid (show Below w.heap.size w w8 from o8.below B7.out (Nat.le_refl _) (by have := LO4.out; have := B3.out.size; have := B7.out.size; rintro j (h | h) <;> omega))
    have SZ8 := Lib.hid (show w7.heap.size ≤ w8.heap.size from o8.size)
    obtain ⟨rr, hrr⟩ : ∃ rr, runL K16 t E (400 : Int).toNat ⟨0, fun _ => 0, setB (noughts 128) 0 (l1.take 100)⟩ = rr := ⟨_, rfl⟩
    rw [hrr] at CV MM8 BL8 ⊢
    have HRR := Lib.hid hrr
    clear own8 mm8 bl8 o8 hcv hrr
    go_wp2_with fail
    refine (rcheck_any (some ⟨b1, off, none⟩) c3 t w8 S38.out WF.out).mono ?_
    rw [HC.out]
    rintro e w9 ⟨rfl, b9⟩
    have B9 := Lib.hid b9
    have SZ9 := Lib.hid b9.size
    clear b9
    go_wp2_with fail
    generalize hMA : Array.setIfInBounds (Array.setIfInBounds _ _ _) _ _ = MAr
    have T0 := Lib.hid (machT_new w9 (X := X) (F := 400) hMA.symm)
    have BA := Lib.hid (show Below w9.heap.size w9 (w9.alloc (.cells MAr 49)) from (Below.refl _ _).alloc (Nat.le_refl _) _)
    obtain ⟨RB, hRB⟩ : ∃ RB, w9.heap.size = RB := ⟨_, rfl⟩
    have RBW := Lib.hid (show RB < (w9.alloc (.cells MAr 49)).heap.size by simp; omega)
    have RB9 := Lib.hid (show w9.heap.size ≤ RB ∧ RB ≤ w9.heap.size by omega)
    have XA := Lib.hid ((X8.out.out (Out.of_below (fun _ => False) B9.out) id (fun _ _ => id)).out (Out.of_below (fun _ => False) BA.out) id (fun _ _ => id))
    rw [hRB] at T0 ⊢
    generalize hWA : w9.alloc (.cells MAr 49) = WA at *
    clear hMA hRB hWA
    have S3A := Lib.hid ((S38.out.later B9.out).later BA.out)
    have VB := Lib.hid (show ∀ j, v0.ownBlock = some j → X + 1 ≤ j ∧ j < w4.heap.size from fun j hj => X4.out.own.lt j hj)
    have DM0 := Lib.hid (show DM RB X (X + 1) 400 K16 128 v0 WA (100 + 4 * 0) (fun _ => 0) (setB (noughts 128) 0 (l1.take 100)) ((0 : Nat) : Int) 0 WA from
      ⟨T0.out, ⟨L0, v0, by rw [show K16.Fb.length = 256 from noughts_lenM 256]; exact XA.out, AG4.out, by have := LN4.out; rw [List.length_take] at this; omega, fun j hj => .inl hj⟩, .refl _ _, (fun k => ⟨Int.le_refl 0, by show (0 : Int) < 4294967296; decide⟩), setB_len (take100 l1)⟩)
    have DOES := Lib.hid (rdoes_any RB X (X + 1) 400 K16 128 v0 WA 100 t E b1 off c3 HP.out hll (by have := RB9.out; have := XW4.out; have := B47.out.size; have := SZ8.out; have := SZ9.out; omega) (fun h => by have := VB.out _ h; have := RB9.out; have := B47.out.size; have := SZ8.out; have := SZ9.out; omega) RBW.out (by have := banks16 (take100 l1); rwa [setB_len (take100 l1)] at this) MA.out.fF (by omega) (by decide) S3A.out (by
        have q1 := RB9.out; have q2 := RBW.out; have q3 := SZ8.out; have q4 := SZ9.out; have q5 := B47.out.size; have q6 := LO4.out; have q7 := HI4.out
        rintro (h | h | h | h)
        · omega
        · omega
        · have := VB.out _ h; omega
        · omega) t.length 0 t.length 0 ⟨0, fun _ => 0, setB (noughts 128) 0 (l1.take 100)⟩ WA (by omega) HP.out.bal (Nat.le_refl _) rfl (by decide) DM0.out)
    refine DOES.out.mono ?_
    rintro e wB ⟨rfl, n, s', tt, hre, hdm, hways, hbd⟩
    have HRUN := ways_run hre hways hbd
    rw [HRR.out] at HRUN
    subst HRUN
    have HDM := Lib.hid hdm
    clear hre hdm hways hbd DOES DM0
    obtain ⟨L9, v9, hx9, hag9, _, _⟩ := HDM.out.x
    have X9 := Lib.hid (show RefIs X (X + 1) 4096 256 2147483648 128 L9 v9 wB by have := hx9; rw [show K16.Fb.length = 256 from noughts_lenM 256] at this; exact this)
    have AG9 := Lib.hid hag9
    clear hx9 hag9
    have NSD := Lib.hid (show ∀ j, j < w8.heap.size → j ≠ X → (∀ q, v0.ownBlock = some q → q ≠ j) → ¬ SD0 RB X v0 WA j from fun j h1 h2 h3 h => by
      have := SZ9.out; have := RB9.out; have := RBW.out
      rcases h with h | h | h | h
      · omega
      · exact h2 h
      · exact h3 j h rfl
      · omega)
    have MM9 := Lib.hid (show MemIs M F R K16.ff K16.rr K16.Fb s'.b wB from (((MM8.out.out (Out.of_below (fun _ => False) B9.out) id id id).out (Out.of_below (fun _ => False) BA.out) id id id).out HDM.out.o
      (NSD.out _ (by have := LT1.out; have := SZ8.out; omega) (by have := HI4.out; omega) (fun q hq => by have := VB.out q hq; have := HI4.out; omega))
      (NSD.out _ (by have := LT1.out; have := SZ8.out; omega) (by have := HI4.out; omega) (fun q hq => by have := VB.out q hq; have := HI4.out; omega))
      (NSD.out _ (by have := LT1.out; have := SZ8.out; omega) (by have := HI4.out; omega) (fun q hq => by have := VB.out q hq; have := HI4.out; omega))))
    have NG := Lib.hid (NSD.out gv hgv2 (by have := XW4.out; have := B47.out.size; omega) (fun q hq => by have := VB.out q hq; have := B47.out.size; omega))
    have CV9 := Lib.hid (show ∀ k, k < 64 → wB.cell? ⟨gv, k, none⟩ = some (.int .u32 (s'.f k)) from fun k hk =>
      (HDM.out.o.cell (p := ⟨gv, k, none⟩) (by show gv < WA.heap.size; have := SZ9.out; have := BA.out.size; omega) NG.out).trans ((BA.out.cell (p := ⟨gv, k, none⟩) (by show gv < w9.heap.size; have := SZ9.out; omega)).trans ((B9.out.cell (p := ⟨gv, k, none⟩) hgv2).trans (CV.out k hk))))
    have BB := Lib.hid (show Below w.heap.size w wB from HDM.out.o.below ((B8.out.trans (B9.out.mono B8.out.size)).trans (BA.out.mono (by have := B8.out.size; have := SZ9.out; omega))) (Nat.le_refl _) (by
      have q1 := B8.out.size; have q2 := SZ9.out; have q3 := RB9.out; have q4 := RBW.out; have q5 := B4.out.size; have q6 := LO4.out; have q7 := HI4.out; have q8 := B3.out.size
      rintro j (h | h | h | h)
      · omega
      · omega
      · have := VB.out j h; omega
      · omega))
    have GVL := Lib.hid (show gv < wB.heap.size by have := SZ9.out; have := BA.out.size; have := HDM.out.o.size; omega)
    have MT := Lib.hid HDM.out.m
    have BLB := Lib.hid (show s'.b.length = 128 from HDM.out.bl)
    clear HDM NSD NG CV MM8 BL8 O8
    obtain ⟨ps, fs, bs⟩ := s'
    simp only at MT CV9 X9 AG9 MM9 BLB ⊢
    have RG := Lib.hid (show wB.rangeAt RB 1 (cellsF fs) from fun j v hj => by
      obtain ⟨hjl, _⟩ := List.getElem?_eq_some_iff.1 hj
      rw [cellsF_len] at hjl
      rw [cellsF_at _ hjl] at hj
      cases hj
      exact MT.out.v j hjl)
    have SZR := Lib.hid (show (Try.prog.info? 47).map (·.size) = some (cellsF fs).length by rw [cellsF_len]; kernel_rfl)
    have SAME := Lib.hid (sameV_eq gv cv (cellsF fs).toArray fs wB (fun k hk => by simpa using cellsF_at fs hk) CV9.out GVL.out)
    obtain ⟨cs, hcs⟩ : ∃ cs, cellsF fs = cs := ⟨_, rfl⟩
    rw [hcs] at RG SZR SAME
    clear hcs
    go_wp2_with (refine wpList_load_mid rfl 47 (.tmp 70) rfl RB 1 rfl cs _ RG.out Try.underlying47 rfl SZR.out ?_)
    refine SAME.out.mono ?_
    rintro e wC ⟨rfl, bC⟩
    have MC := Lib.hid (MT.out.out (Out.of_below (fun _ => False) bC) id)
    have XC := Lib.hid (X9.out.out (Out.of_below (fun _ => False) bC) id (fun _ _ => id))
    have MMC := Lib.hid (MM9.out.out (Out.of_below (fun _ => False) bC) id id id)
    have BC := Lib.hid (BB.out.trans (bC.mono BB.out.size))
    clear bC RG SAME
    have cst := MC.out.st
    have ctr := MC.out.tr
    rw [Nat.zero_add] at cst
    go_wp2_with fail
    refine (bytesV_eq (Fb := noughts 256) MMC.out (noughts_lenM 256) BLB.out XC.out AG9.out).mono ?_
    rintro e wD ⟨rfl, bD⟩
    have BD := Lib.hid (BC.out.trans (bD.mono BC.out.size))
    clear bD cst ctr
    go_wp2_with fail
    refine (lives16 wD).mono ?_
    rintro e wE ⟨rfl, bE⟩
    go_wp2_with fail
    go_ret
    exact ⟨rfl, BD.out.trans (bE.mono BD.out.size)⟩
  · obtain ⟨z, hz⟩ : ∃ z, checkS t = z := ⟨_, rfl⟩
    have HZ := Lib.hid hz
    have hz0 : (z == 0) = false := by rw [← hz]; simpa using hc
    have hz1' : (z != 0) = true := by rw [← hz]; simpa using hc
    clear hz hc
    go_wp2_with fail
    refine (run_bad 400 z t (some ⟨g5, 0, none⟩) c5 (some ⟨M, 0, none⟩) w7 S7.out HZ.out hz0).mono ?_
    rintro e w8 ⟨rfl, b8⟩
    have B8 := Lib.hid (B7.out.trans (b8.mono B7.out.size))
    have S8 := Lib.hid (S37.out.later b8)
    clear b8
    go_wp2_with fail
    refine (rcheck_any (some ⟨b1, off, none⟩) c3 t w8 S8.out WF.out).mono ?_
    rw [HZ.out]
    rintro e w9 ⟨rfl, b9⟩
    have B9 := Lib.hid (B8.out.trans (b9.mono B8.out.size))
    clear b9
    go_wp2_with fail
    refine (lives16 w9).mono ?_
    rintro e wE ⟨rfl, bE⟩
    go_wp2_with fail
    go_ret
    exact ⟨rfl, B9.out.trans (bE.mono B9.out.size)⟩

set_option maxRecDepth 100000 in
set_option maxHeartbeats 4000000 in
theorem lruns_d (w : World) (a0 : Option Addr) (c0 : Nat) (l0 t : List Q5) (a1 : Option Addr) (c1 : Nat) (l1 : List Nat) (fu : Int) (w0 : L5In w a0 l0 c0) (w1 : SliceIn w a1 l1 c1) (ht : t = l0.take 60) (hF : fu ≤ 400) (he : t ≠ []) :
    Calls Try.prog 5 #[.slice a0 l0.length c0, .slice a1 l1.length c1, .int .i64 fu] w fun e w' => e = .returned (.bool true) ∧ Below w.heap.size w w' := by
  have HT := Lib.hid ht
  have hll : t.length ≤ 60 := by rw [ht, List.length_take]; omega
  have WF := Lib.hid (wf_take w0.2.2.1 ht)
  have W0 := Lib.hid w0
  have W1 := Lib.hid w1
  have HEM := Lib.hid he
  have tF : decide ((400 : Int) < fu) = false := by simp; omega
  obtain ⟨i0, hi0, hz0, hz1, hz2⟩ := info_parts info_lopF
  clear ht w0 w1 he
  go_enter Try.func5, Try.ntmps5
  go_wp2_with fail
  refine (fewL_at a0 c0 l0 t w W0.out HT.out).mono ?_
  rintro e w3 ⟨a3, c3, rfl, s3, b3⟩
  have S3 := Lib.hid s3
  have B3 := Lib.hid b3
  clear s3 b3
  go_wp2_with fail
  refine (mems_any a1 c1 l1 w3 (W1.out.later B3.out)).mono ?_
  rintro e w4 ⟨M, F, R, X, rfl, m4⟩
  have M4 := Lib.hid m4
  have B4 := Lib.hid (B3.out.trans (m4.b.mono B3.out.size))
  have S4 := Lib.hid (S3.out.later m4.b)
  clear m4
  have OWN0 := Lib.hid (own_emptyL w4)
  have BL0 := Lib.hid ((Below.refl w4.heap.size w4).alloc (Nat.le_refl _) (.cells #[] 29))
  obtain ⟨b1, off, rfl, hb1w, hflat⟩ : ∃ b1 off, a3 = some ⟨b1, off, none⟩ ∧ b1 < w3.heap.size ∧ ∀ j u, (flat t)[j]? = some u → w3.cell? ⟨b1, off + j, none⟩ = some u := by
    obtain ⟨_, h | ⟨b1, off, h1, h2, h3⟩⟩ := S3.out
    · exact absurd h HEM.out
    · exact ⟨b1, off, h1, h2, flat_of h3⟩
  have hb14 : b1 < w4.heap.size := Nat.lt_of_lt_of_le hb1w M4.out.b.size
  have NEWS := Lib.hid (show ∀ j u, (flat t)[j]? = some u → (w4.alloc (.cells #[] 29)).cell? ((⟨b1, off, none⟩ : Addr).add j) = some u from fun j u hj => by
    rw [add_at]
    exact (BL0.out.cell (p := ⟨b1, off + j, none⟩) hb14).trans ((M4.out.b.cell (p := ⟨b1, off + j, none⟩) hb1w).trans (hflat j u hj)))
  have LNF := Lib.hid (flat_len t)
  have ONEF := Lib.hid (flat_one t)
  have MX := Lib.hid (show 0 + t.length ≤ maxLen by unfold maxLen; omega)
  have MXB := Lib.hid (show (0 + t.length) * 40 ≤ 140737488355328 by omega)
  have SZ := Lib.hid (show w4.heap.size ≤ (w4.alloc (.cells #[] 29)).heap.size by simp)
  clear hflat
  go_wp2_with (at_builtin; refine wpList_append_own _ rfl (.tmp 25) (.tmp 26) 27 rfl w4.heap.size 29 i0 (.agg #[.int .i64 0, .int .i64 0, .int .i64 0, .int .i64 0, .int .i32 0]) 5 40 Try.underlying27 hi0 hz0 hz1 hz2 rfl (by decide) (.slice (some ⟨w4.heap.size, 0, none⟩) 0 0) 0 [] rfl OWN0.out ⟨b1, off, none⟩ t.length c3 (flat t) rfl LNF.out NEWS.out ONEF.out MX.out MXB.out SZ.out ?_; intro v5 w7 hown hgrow hn7; obtain ⟨g5, c5, rfl, hG5, hL5⟩ := l5_put hown HEM.out (by omega); have S7 := Lib.hid hL5; have G5 := Lib.hid hG5; have B47 := Lib.hid (BL0.out.grown hgrow BL0.out.size (fun k hk => by cases hk; exact Nat.le_refl _)); clear hown hgrow hn7 hL5 hG5)
  clear OWN0 BL0 NEWS SZ
  have B7 := Lib.hid (B4.out.trans (B47.out.mono B4.out.size))
  have S37 := Lib.hid (S4.out.later B47.out)
  have LO4 := Lib.hid M4.out.lo
  have HI4 := Lib.hid M4.out.hi
  obtain ⟨L0, v0, hx0, hag0, hln0⟩ := M4.out.x
  have X4 := Lib.hid hx0
  have AG4 := Lib.hid hag0
  have LN4 := Lib.hid hln0
  have XW4 := Lib.hid hx0.lt
  clear hx0 hag0 hln0
  by_cases hc : checkS t = 0
  · obtain ⟨E, hp⟩ := prog1_of hc
    have HP := Lib.hid hp
    have HC := Lib.hid hc
    have MA := Lib.hid (show MemIs M F R K16.ff K16.rr K16.Fb (setB (noughts 128) 0 (l1.take 100)) w7 from M4.out.m.out (Out.of_below (fun _ => False) B47.out) id id id)
    have LT1 := Lib.hid (show M < w7.heap.size ∧ F < w7.heap.size ∧ R < w7.heap.size by have h1 := HI4.out; have := XW4.out; have := B47.out.size; omega)
    clear hp hc
    go_wp2_with fail
    refine (run_mem fu t (some ⟨g5, 0, none⟩) c5 E w7 K16 M F R (setB (noughts 128) 0 (l1.take 100)) HP.out hll S7.out (.inr (fun x hx => by cases hx; show g5 ≠ R; have := G5.out; have := HI4.out; have := XW4.out; omega)) MA.out (banks16 (take100 l1)) LT1.out HC.out (by omega)).mono ?_
    rintro e w8 ⟨v8, rfl, own8, mm8, bl8, o8⟩
    obtain ⟨gv, cv, rfl, hcv, hgv1, hgv2⟩ := own_words64 own8
    have CV := Lib.hid hcv
    have MM8 := Lib.hid mm8
    have BL8 := Lib.hid bl8
    have O8 := Lib.hid o8
    have X8 := Lib.hid ((X4.out.out (Out.of_below (fun _ => False) B47.out) id (fun _ _ => id)).out o8 (by have := HI4.out; have := XW4.out; have := B47.out.size; rintro (h | h) <;> omega) (fun j hj => by have h1 := (X4.out.own.lt j hj); have := HI4.out; have := B47.out.size; rintro (h | h) <;> omega))
    have S38 := Lib.hid (l5_far S3.out ((Out.of_below _ (M4.out.b.trans (B47.out.mono M4.out.b.size))).trans (o8.mono (fun j h => by have := LO4.out; have := M4.out.b.size; have := B47.out.size; rcases h with h | h <;> omega))))
    have B8 := Lib.hid (show Below w.heap.size w w8 from o8.below B7.out (Nat.le_refl _) (by have := LO4.out; have := B3.out.size; have := B7.out.size; rintro j (h | h) <;> omega))
    have SZ8 := Lib.hid (show w7.heap.size ≤ w8.heap.size from o8.size)
    obtain ⟨rr, hrr⟩ : ∃ rr, runL K16 t E (fu : Int).toNat ⟨0, fun _ => 0, setB (noughts 128) 0 (l1.take 100)⟩ = rr := ⟨_, rfl⟩
    rw [hrr] at CV MM8 BL8 ⊢
    have HRR := Lib.hid hrr
    clear own8 mm8 bl8 o8 hcv hrr
    go_wp2_with fail
    refine (rcheck_any (some ⟨b1, off, none⟩) c3 t w8 S38.out WF.out).mono ?_
    rw [HC.out]
    rintro e w9 ⟨rfl, b9⟩
    have B9 := Lib.hid b9
    have SZ9 := Lib.hid b9.size
    clear b9
    go_wp2_with fail
    generalize hMA : Array.setIfInBounds (Array.setIfInBounds _ _ _) _ _ = MAr
    have T0 := Lib.hid (machT_new w9 (X := X) (F := fu) hMA.symm)
    have BA := Lib.hid (show Below w9.heap.size w9 (w9.alloc (.cells MAr 49)) from (Below.refl _ _).alloc (Nat.le_refl _) _)
    obtain ⟨RB, hRB⟩ : ∃ RB, w9.heap.size = RB := ⟨_, rfl⟩
    have RBW := Lib.hid (show RB < (w9.alloc (.cells MAr 49)).heap.size by simp; omega)
    have RB9 := Lib.hid (show w9.heap.size ≤ RB ∧ RB ≤ w9.heap.size by omega)
    have XA := Lib.hid ((X8.out.out (Out.of_below (fun _ => False) B9.out) id (fun _ _ => id)).out (Out.of_below (fun _ => False) BA.out) id (fun _ _ => id))
    rw [hRB] at T0 ⊢
    generalize hWA : w9.alloc (.cells MAr 49) = WA at *
    clear hMA hRB hWA
    have S3A := Lib.hid ((S38.out.later B9.out).later BA.out)
    have VB := Lib.hid (show ∀ j, v0.ownBlock = some j → X + 1 ≤ j ∧ j < w4.heap.size from fun j hj => X4.out.own.lt j hj)
    have DM0 := Lib.hid (show DM RB X (X + 1) fu K16 128 v0 WA (100 + 4 * 0) (fun _ => 0) (setB (noughts 128) 0 (l1.take 100)) ((0 : Nat) : Int) 0 WA from
      ⟨T0.out, ⟨L0, v0, by rw [show K16.Fb.length = 256 from noughts_lenM 256]; exact XA.out, AG4.out, by have := LN4.out; rw [List.length_take] at this; omega, fun j hj => .inl hj⟩, .refl _ _, (fun k => ⟨Int.le_refl 0, by show (0 : Int) < 4294967296; decide⟩), setB_len (take100 l1)⟩)
    have DOES := Lib.hid (rdoes_any RB X (X + 1) fu K16 128 v0 WA 100 t E b1 off c3 HP.out hll (by have := RB9.out; have := XW4.out; have := B47.out.size; have := SZ8.out; have := SZ9.out; omega) (fun h => by have := VB.out _ h; have := RB9.out; have := B47.out.size; have := SZ8.out; have := SZ9.out; omega) RBW.out (by have := banks16 (take100 l1); rwa [setB_len (take100 l1)] at this) MA.out.fF (by omega) (by decide) S3A.out (by
        have q1 := RB9.out; have q2 := RBW.out; have q3 := SZ8.out; have q4 := SZ9.out; have q5 := B47.out.size; have q6 := LO4.out; have q7 := HI4.out
        rintro (h | h | h | h)
        · omega
        · omega
        · have := VB.out _ h; omega
        · omega) t.length 0 t.length 0 ⟨0, fun _ => 0, setB (noughts 128) 0 (l1.take 100)⟩ WA (by omega) HP.out.bal (Nat.le_refl _) rfl (by decide) DM0.out)
    refine DOES.out.mono ?_
    rintro e wB ⟨rfl, n, s', tt, hre, hdm, hways, hbd⟩
    have HRUN := ways_run hre hways hbd
    rw [HRR.out] at HRUN
    subst HRUN
    have HDM := Lib.hid hdm
    clear hre hdm hways hbd DOES DM0
    obtain ⟨L9, v9, hx9, hag9, _, _⟩ := HDM.out.x
    have X9 := Lib.hid (show RefIs X (X + 1) 4096 256 2147483648 128 L9 v9 wB by have := hx9; rw [show K16.Fb.length = 256 from noughts_lenM 256] at this; exact this)
    have AG9 := Lib.hid hag9
    clear hx9 hag9
    have NSD := Lib.hid (show ∀ j, j < w8.heap.size → j ≠ X → (∀ q, v0.ownBlock = some q → q ≠ j) → ¬ SD0 RB X v0 WA j from fun j h1 h2 h3 h => by
      have := SZ9.out; have := RB9.out; have := RBW.out
      rcases h with h | h | h | h
      · omega
      · exact h2 h
      · exact h3 j h rfl
      · omega)
    have MM9 := Lib.hid (show MemIs M F R K16.ff K16.rr K16.Fb s'.b wB from (((MM8.out.out (Out.of_below (fun _ => False) B9.out) id id id).out (Out.of_below (fun _ => False) BA.out) id id id).out HDM.out.o
      (NSD.out _ (by have := LT1.out; have := SZ8.out; omega) (by have := HI4.out; omega) (fun q hq => by have := VB.out q hq; have := HI4.out; omega))
      (NSD.out _ (by have := LT1.out; have := SZ8.out; omega) (by have := HI4.out; omega) (fun q hq => by have := VB.out q hq; have := HI4.out; omega))
      (NSD.out _ (by have := LT1.out; have := SZ8.out; omega) (by have := HI4.out; omega) (fun q hq => by have := VB.out q hq; have := HI4.out; omega))))
    have NG := Lib.hid (NSD.out gv hgv2 (by have := XW4.out; have := B47.out.size; omega) (fun q hq => by have := VB.out q hq; have := B47.out.size; omega))
    have CV9 := Lib.hid (show ∀ k, k < 64 → wB.cell? ⟨gv, k, none⟩ = some (.int .u32 (s'.f k)) from fun k hk =>
      (HDM.out.o.cell (p := ⟨gv, k, none⟩) (by show gv < WA.heap.size; have := SZ9.out; have := BA.out.size; omega) NG.out).trans ((BA.out.cell (p := ⟨gv, k, none⟩) (by show gv < w9.heap.size; have := SZ9.out; omega)).trans ((B9.out.cell (p := ⟨gv, k, none⟩) hgv2).trans (CV.out k hk))))
    have BB := Lib.hid (show Below w.heap.size w wB from HDM.out.o.below ((B8.out.trans (B9.out.mono B8.out.size)).trans (BA.out.mono (by have := B8.out.size; have := SZ9.out; omega))) (Nat.le_refl _) (by
      have q1 := B8.out.size; have q2 := SZ9.out; have q3 := RB9.out; have q4 := RBW.out; have q5 := B4.out.size; have q6 := LO4.out; have q7 := HI4.out; have q8 := B3.out.size
      rintro j (h | h | h | h)
      · omega
      · omega
      · have := VB.out j h; omega
      · omega))
    have GVL := Lib.hid (show gv < wB.heap.size by have := SZ9.out; have := BA.out.size; have := HDM.out.o.size; omega)
    have MT := Lib.hid HDM.out.m
    have BLB := Lib.hid (show s'.b.length = 128 from HDM.out.bl)
    clear HDM NSD NG CV MM8 BL8 O8
    obtain ⟨ps, fs, bs⟩ := s'
    simp only at MT CV9 X9 AG9 MM9 BLB ⊢
    have RG := Lib.hid (show wB.rangeAt RB 1 (cellsF fs) from fun j v hj => by
      obtain ⟨hjl, _⟩ := List.getElem?_eq_some_iff.1 hj
      rw [cellsF_len] at hjl
      rw [cellsF_at _ hjl] at hj
      cases hj
      exact MT.out.v j hjl)
    have SZR := Lib.hid (show (Try.prog.info? 47).map (·.size) = some (cellsF fs).length by rw [cellsF_len]; kernel_rfl)
    have SAME := Lib.hid (sameV_eq gv cv (cellsF fs).toArray fs wB (fun k hk => by simpa using cellsF_at fs hk) CV9.out GVL.out)
    obtain ⟨cs, hcs⟩ : ∃ cs, cellsF fs = cs := ⟨_, rfl⟩
    rw [hcs] at RG SZR SAME
    clear hcs
    go_wp2_with (refine wpList_load_mid rfl 47 (.tmp 70) rfl RB 1 rfl cs _ RG.out Try.underlying47 rfl SZR.out ?_)
    refine SAME.out.mono ?_
    rintro e wC ⟨rfl, bC⟩
    have MC := Lib.hid (MT.out.out (Out.of_below (fun _ => False) bC) id)
    have XC := Lib.hid (X9.out.out (Out.of_below (fun _ => False) bC) id (fun _ _ => id))
    have MMC := Lib.hid (MM9.out.out (Out.of_below (fun _ => False) bC) id id id)
    have BC := Lib.hid (BB.out.trans (bC.mono BB.out.size))
    clear bC RG SAME
    have cst := MC.out.st
    have ctr := MC.out.tr
    rw [Nat.zero_add] at cst
    go_wp2_with fail
    refine (bytesV_eq (Fb := noughts 256) MMC.out (noughts_lenM 256) BLB.out XC.out AG9.out).mono ?_
    rintro e wD ⟨rfl, bD⟩
    have BD := Lib.hid (BC.out.trans (bD.mono BC.out.size))
    clear bD cst ctr
    go_wp2_with fail
    refine (lives16 wD).mono ?_
    rintro e wE ⟨rfl, bE⟩
    go_wp2_with fail
    go_ret
    exact ⟨rfl, BD.out.trans (bE.mono BD.out.size)⟩
  · obtain ⟨z, hz⟩ : ∃ z, checkS t = z := ⟨_, rfl⟩
    have HZ := Lib.hid hz
    have hz0 : (z == 0) = false := by rw [← hz]; simpa using hc
    have hz1' : (z != 0) = true := by rw [← hz]; simpa using hc
    clear hz hc
    go_wp2_with fail
    refine (run_bad fu z t (some ⟨g5, 0, none⟩) c5 (some ⟨M, 0, none⟩) w7 S7.out HZ.out hz0).mono ?_
    rintro e w8 ⟨rfl, b8⟩
    have B8 := Lib.hid (B7.out.trans (b8.mono B7.out.size))
    have S8 := Lib.hid (S37.out.later b8)
    clear b8
    go_wp2_with fail
    refine (rcheck_any (some ⟨b1, off, none⟩) c3 t w8 S8.out WF.out).mono ?_
    rw [HZ.out]
    rintro e w9 ⟨rfl, b9⟩
    have B9 := Lib.hid (B8.out.trans (b9.mono B8.out.size))
    clear b9
    go_wp2_with fail
    refine (lives16 w9).mono ?_
    rintro e wE ⟨rfl, bE⟩
    go_wp2_with fail
    go_ret
    exact ⟨rfl, B9.out.trans (bE.mono B9.out.size)⟩

theorem walk_LirrunRuns (w : World) (a0 : Option Addr) (c0 : Nat) (l0 : List Q5) (a1 : Option Addr) (c1 : Nat) (l1 : List Nat) (fu : Int) (w0 : L5In w a0 l0 c0) (w1 : SliceIn w a1 l1 c1) (w2 : (Lit.int .i64 fu).wf = true) :
    Calls Try.prog 5 #[.slice a0 l0.length c0, .slice a1 l1.length c1, .int .i64 fu] w fun e w' => e = .returned (.bool true) ∧ Below w.heap.size w w' := by
  by_cases he : l0.take 60 = []
  · by_cases hF : 400 < fu
    · exact lruns_a w a0 c0 l0 _ a1 c1 l1 fu w0 w1 rfl hF he
    · exact lruns_b w a0 c0 l0 _ a1 c1 l1 fu w0 w1 rfl (by omega) he
  · by_cases hF : 400 < fu
    · exact lruns_c w a0 c0 l0 _ a1 c1 l1 fu w0 w1 rfl hF he
    · exact lruns_d w a0 c0 l0 _ a1 c1 l1 fu w0 w1 rfl (by omega) he

theorem own : ownKnob Try.prog.godebug = none := by kernel_rfl
theorem laidOut : laidOutB Try.prog = true := by kernel_rfl
set_option maxRecDepth 100000 in
theorem lifted_LirrunRuns (os : Os) (started : os.Started) (H : Type) (enc : TypeId × Value → H) :
    ReturnsInHanded {} Try.checked os 5 .any (Rows.lirrunRunsSpec.pre6 enc Try.prog Try.f5 Rows.lirrunRunsRow.domain false) (Rows.lirrunRunsSpec.post enc Try.prog Try.f5 false true false false) := by
  refine returnsInHanded_of_change (C := Try.checked) own started (by kernel_rfl) Try.func5
    (ChangeSpec.witness6 (enc := enc) (C := Try.checked) false ⟨#[], #[.slice none 0 0, .slice none 0 0, .int .i64 0], []⟩ 8 (by kernel_rfl) (by kernel_rfl) (by kernel_rfl) (by kernel_rfl)) ?_
  intro W base args ds gs before hval0 hW hcnd _
  have hval : ∀ (j : Nat) t v, Try.f5.params[j]? = some t → args[j]? = some v → Value.okWide Try.prog W .any base t v := hval0
  have hW' := hW
  obtain ⟨p, q, hA0, hV, rfl, hfz, hnd⟩ := hW
  have hA : DataW.TrodAll enc Try.prog W 0 (fun _ => true) true Try.f5.params.toList args.toList ds p := hA0
  rw [Try.params5] at hA hval
  obtain ⟨v0, vs0, d0, ds0, p0, q0, hargs, rfl, rfl, h0, r0⟩ := trodAll_cons hA
  obtain ⟨v1, vs1, d1, ds1, p1, q1, rfl, rfl, rfl, h1, r1⟩ := trodAll_cons r0
  obtain ⟨v2, vs2, d2, ds2, p2, q2, rfl, rfl, rfl, h2, r2⟩ := trodAll_cons r1
  obtain ⟨rfl, rfl, rfl⟩ := trodAll_nil r2
  obtain rfl : args = #[v0, v1, v2] := by cases args; simp_all
  obtain ⟨rfl, rfl⟩ := trodVars_none hV
  have k0 := h0
  have lt0 : ∀ x ∈ p0, x.block < W.heap.size := by obtain ⟨m, hm⟩ := k0; exact DataW.trod_lt m _ _ _ hm
  obtain ⟨a0, c0, l0, rfl, w0⟩ := lop_in (hval 0 27 v0 rfl rfl) h0
  have k1 := h1
  have lt1 : ∀ x ∈ p1, x.block < W.heap.size := by obtain ⟨m, hm⟩ := k1; exact DataW.trod_lt m _ _ _ hm
  obtain ⟨a1, c1, l1, rfl, w1⟩ := bytes_in Try.underlying45 Try.underlying5 (by kernel_rfl) (hval 1 45 v1 rfl rfl) h1
  obtain ⟨a2, rfl, rfl, rfl, w2⟩ := open_int Try.underlying3 (hval 2 3 v2 rfl rfl) h2
  clear hA0 hval0
  refine (walk_LirrunRuns W a0 c0 l0 a1 c1 l1 a2 w0 w1 w2).mono fun e W' ⟨he, bel⟩ => ?_
  subst he
  exact ⟨_, rfl, _, _, _, [], _, [], hW', trodAll_mk1 (shut_bool Try.underlying4 _), (trodAll_cons_mk (Below.trod laidOut (by kernel_rfl) (of_decide_eq_true (by kernel_rfl)) k0 bel lt0) (trodAll_cons_mk (Below.trod laidOut (by kernel_rfl) (of_decide_eq_true (by kernel_rfl)) k1 bel lt1) (trodAll_cons_mk (shut_int Try.underlying3 w2) trodAll_mk0))), rfl, bel.frame _, fun h => by cases h⟩

theorem holds_LirrunRuns : Rows.LirrunRunsSaid :=
  OpenClaim.holds_of_wide 5 Try.f5 rfl rfl rfl rfl rfl rfl rfl ⟨rfl, rfl, rfl, rfl, rfl⟩ rfl rfl rfl rfl rfl (by kernel_rfl) Try.func5 (by kernel_rfl)
    (of_decide_eq_true (by kernel_rfl)) (by unfold Func.isWrapper; first | (rw [if_pos (by decide +kernel)]; kernel_rfl) | (rw [if_neg (by decide +kernel)]; exact ⟨rfl, rfl⟩))
    (fun os started H enc _ => lifted_LirrunRuns os started H enc)

end Go.Proofs.Ytghclbeoabkgcaa
