/- The statement LirrunOne of layer 16: it returns true for all inputs. -/
import Derived.Test.YtghclbeoabkgcaaRows
import Derived.Test.YtghclbeoabkgcaaGM
namespace Go.Proofs.Ytghclbeoabkgcaa
open Go Go.RowKit Go.ChangeShapes Go.WideShapes Go.ChangeAt Pl
set_option linter.unusedVariables false

def bs7 : List Nat := [1, 2, 3, 200, 255, 128, 127]
theorem bs7_in (w : World) : SliceIn (w.alloc (.cells #[.int .u8 1, .int .u8 2, .int .u8 3, .int .u8 200, .int .u8 255, .int .u8 128, .int .u8 127] 5)) (some ⟨w.heap.size, 0, none⟩) bs7 7 := by
  refine ⟨by decide, by decide, by decide, .inr (.inr ⟨w.heap.size, 0, rfl, by simp, fun k hk => ?_⟩)⟩
  have hk' : k < 7 := hk
  rw [Nat.zero_add, World.cell?_alloc_new]
  have : k = 0 ∨ k = 1 ∨ k = 2 ∨ k = 3 ∨ k = 4 ∨ k = 5 ∨ k = 6 := by omega
  rcases this with rfl | rfl | rfl | rfl | rfl | rfl | rfl <;> rfl
theorem l5_three {w : World} {g : Nat} {t : List Q5} (hl : t.length = 3) (hg : g < w.heap.size) (h : ∀ j u, (flat t)[j]? = some u → w.cell? ⟨g, 0 + j, none⟩ = some u) : L5 w (some ⟨g, 0, none⟩) t := l5_mk (by omega) hg h
theorem wf32 (a : Int) (h : -2147483648 ≤ a ∧ a ≤ 2147483647) : (Lit.int .i32 a).wf = true := by simpa [Lit.wf, IntKind.min, IntKind.max, IntKind.signed, IntKind.bits] using h
theorem w32_bd (a : Int) : -2147483648 ≤ wrap32 a ∧ wrap32 a ≤ 2147483647 := by unfold wrap32; omega
def tOne (xo xd xa xb xi a b : Int) : List Q5 := [⟨1, xa, 0, 0, wrap32 a⟩, ⟨1, xb, 0, 0, wrap32 b⟩, ⟨xo, xd, xa, xb, xi⟩]
set_option maxRecDepth 100000 in
set_option maxHeartbeats 4000000 in
theorem walk_LirrunOne (xo xd xa xb xi : Int) (a b : Int) (f0 : (Lit.int .i64 xo).wf = true) (f1 : (Lit.int .i64 xd).wf = true) (f2 : (Lit.int .i64 xa).wf = true) (f3 : (Lit.int .i64 xb).wf = true) (f4 : (Lit.int .i32 xi).wf = true) (f5 : (Lit.int .u32 a).wf = true) (f6 : (Lit.int .u32 b).wf = true) (w : World) :
    Calls Try.prog 4 #[.agg #[.int .i64 xo, .int .i64 xd, .int .i64 xa, .int .i64 xb, .int .i32 xi], .int .u32 a, .int .u32 b] w fun e w' => e = .returned (.bool true) ∧ Below w.heap.size w w' := by
  have ha : 0 ≤ a ∧ a ≤ 4294967295 := by simpa [Lit.wf, IntKind.min, IntKind.max, IntKind.signed, IntKind.bits] using f5
  have hb : 0 ≤ b ∧ b ≤ 4294967295 := by simpa [Lit.wf, IntKind.min, IntKind.max, IntKind.signed, IntKind.bits] using f6
  have ha' : a < 4294967296 := by omega
  have hb' : b < 4294967296 := by omega
  have WF := Lib.hid (show ∀ x ∈ tOne xo xd xa xb xi a b, x.wf by
    intro x hx
    unfold tOne at hx
    simp only [List.mem_cons, List.not_mem_nil, or_false] at hx
    rcases hx with rfl | rfl | rfl
    · exact ⟨(show (Lit.int .i64 1).wf = true by decide), f2, (show (Lit.int .i64 0).wf = true by decide), (show (Lit.int .i64 0).wf = true by decide), wf32 _ (w32_bd a)⟩
    · exact ⟨(show (Lit.int .i64 1).wf = true by decide), f3, (show (Lit.int .i64 0).wf = true by decide), (show (Lit.int .i64 0).wf = true by decide), wf32 _ (w32_bd b)⟩
    · exact ⟨f0, f1, f2, f3, f4⟩)
  clear f0 f1 f2 f3 f4 f5 f6
  go_enter Try.func4, Try.ntmps4
  go_wp2_with fail
  obtain ⟨w2, hw2⟩ : ∃ W, ((w.alloc (.cells #[.int .i64 xo, .int .i64 xd, .int .i64 xa, .int .i64 xb, .int .i32 xi] 29)).alloc (.cells #[.int .i64 1, .int .i64 xa, .int .i64 0, .int .i64 0, .int .i32 (wrap32 a), .int .i64 1, .int .i64 xb, .int .i64 0, .int .i64 0, .int .i32 (wrap32 b), .int .i64 xo, .int .i64 xd, .int .i64 xa, .int .i64 xb, .int .i32 xi] 29)) = W := ⟨_, rfl⟩
  have B2 := Lib.hid (show Below w.heap.size w w2 by rw [← hw2]; exact ((Below.refl _ _).alloc (Nat.le_refl _) _).alloc (by simp) _)
  have S2 := Lib.hid (show L5 w2 (some ⟨w.heap.size + 1, 0, none⟩) (tOne xo xd xa xb xi a b) by
    refine l5_three rfl (by rw [← hw2]; simp) fun j u hj => ?_
    have e : (w.alloc (.cells #[.int .i64 xo, .int .i64 xd, .int .i64 xa, .int .i64 xb, .int .i32 xi] 29)).heap.size = w.heap.size + 1 := by simp
    rw [← hw2, ← e, Nat.zero_add, World.cell?_alloc_new]
    simpa [tOne, flat, Q5.cells] using hj)
  obtain ⟨t, ht⟩ : ∃ t, tOne xo xd xa xb xi a b = t := ⟨_, rfl⟩
  have HL3 := Lib.hid (show t.length = 3 by rw [← ht]; rfl)
  have hll : t.length ≤ 60 := by have := HL3.out; omega
  obtain ⟨b1, hb1⟩ : ∃ b1, w.heap.size + 1 = b1 := ⟨_, rfl⟩
  rw [ht] at S2 WF
  rw [hb1] at S2
  have HB1 := Lib.hid (show b1 < w2.heap.size by rw [← hw2, ← hb1]; simp)
  have LB1 := Lib.hid (show w.heap.size ≤ b1 by omega)
  rw [hw2]
  have ESL := Lib.hid (show Value.slice (some ⟨b1, 0, none⟩) t.length 3 = Value.slice (some ⟨b1, 0, none⟩) 3 3 by rw [HL3.out])
  have ENL := Lib.hid (show ((t.length : Nat) : Int) = 3 by rw [HL3.out]; rfl)
  rw [hb1]
  clear ht hw2
  have RCK := rcheck_any (some ⟨b1, 0, none⟩) 3 t w2 S2.out WF.out
  rw [ESL.out] at RCK
  by_cases hc : checkS t = 0
  · rw [hc] at RCK
    refine RCK.mono ?_
    clear RCK
    rintro e w2b ⟨rfl, b2b⟩
    have B2b := Lib.hid (B2.out.trans (b2b.mono B2.out.size))
    have S2b := Lib.hid (S2.out.later b2b)
    have Z2b := Lib.hid b2b.size
    clear b2b hb1
    go_wp2_with fail
    have SI := Lib.hid (bs7_in w2b)
    have BA7 := Lib.hid ((Below.refl w2b.heap.size w2b).alloc (Nat.le_refl _) (.cells #[.int .u8 1, .int .u8 2, .int .u8 3, .int .u8 200, .int .u8 255, .int .u8 128, .int .u8 127] 5))
    obtain ⟨g7, hg7⟩ : ∃ g7, w2b.heap.size = g7 := ⟨_, rfl⟩
    rw [hg7] at SI ⊢
    generalize w2b.alloc (.cells #[.int .u8 1, .int .u8 2, .int .u8 3, .int .u8 200, .int .u8 255, .int .u8 128, .int .u8 127] 5) = w3 at *
    have B3 := Lib.hid (B2b.out.trans (BA7.out.mono B2b.out.size))
    have S3 := Lib.hid (S2b.out.later BA7.out)
    have HB13 := Lib.hid (show b1 < w3.heap.size by have := HB1.out; have := Z2b.out; have := BA7.out.size; omega)
    clear hg7
    obtain ⟨l1, hl1⟩ : ∃ l1, bs7 = l1 := ⟨_, rfl⟩
    have L7 := Lib.hid (show l1.length = 7 by rw [← hl1]; rfl)
    rw [hl1] at SI
    clear hl1
    have MEM := mems_any (some ⟨g7, 0, none⟩) 7 l1 w3 SI.out
    rw [L7.out] at MEM
    refine MEM.mono ?_
    clear MEM
    rintro e w4 ⟨M, F, R, X, rfl, m4⟩
    have M4 := Lib.hid m4
    have B4 := Lib.hid (B3.out.trans (m4.b.mono B3.out.size))
    have S4 := Lib.hid (S3.out.later m4.b)
    have Z34 := Lib.hid m4.b.size
    clear m4
    have LO4 := Lib.hid M4.out.lo
    have HI4 := Lib.hid M4.out.hi
    obtain ⟨L0, v0, hx0, hag0, hln0⟩ := M4.out.x
    have X4 := Lib.hid hx0
    have AG4 := Lib.hid hag0
    have LN4 := Lib.hid hln0
    have XW4 := Lib.hid hx0.lt
    clear hx0 hag0 hln0
    obtain ⟨E, hp⟩ := prog1_of hc
    have HP := Lib.hid hp
    have HC := Lib.hid hc
    have MA := Lib.hid (show MemIs M F R K16.ff K16.rr K16.Fb (setB (noughts 128) 0 (l1.take 100)) w4 from M4.out.m)
    have LT1 := Lib.hid (show M < w4.heap.size ∧ F < w4.heap.size ∧ R < w4.heap.size by have h1 := HI4.out; have := XW4.out; omega)
    clear hp hc
    go_wp2_with fail
    have RUN := run_mem 9 t (some ⟨b1, 0, none⟩) 3 E w4 K16 M F R (setB (noughts 128) 0 (l1.take 100)) HP.out hll S4.out (.inr (fun x hx => by cases hx; show b1 ≠ R; have := HB13.out; have := LO4.out; omega)) MA.out (banks16 (take100 l1)) LT1.out HC.out (by omega)
    rw [ESL.out] at RUN
    refine RUN.mono ?_
    clear RUN
    rintro e w8 ⟨v8, rfl, own8, mm8, bl8, o8⟩
    obtain ⟨gv, cv, rfl, hcv, hgv1, hgv2⟩ := own_words64 own8
    have CV := Lib.hid hcv
    have MM8 := Lib.hid mm8
    have BL8 := Lib.hid bl8
    have O8 := Lib.hid o8
    have X8 := Lib.hid (X4.out.out o8 (by have := HI4.out; have := XW4.out; rintro (h | h) <;> omega) (fun j hj => by have h1 := (X4.out.own.lt j hj); have := HI4.out; rintro (h | h) <;> omega))
    have S38 := Lib.hid (l5_far S3.out ((Out.of_below _ M4.out.b).trans (o8.mono (fun j h => by have := LO4.out; have := M4.out.b.size; rcases h with h | h <;> omega))))
    have B8 := Lib.hid (show Below w.heap.size w w8 from o8.below B4.out (Nat.le_refl _) (by have := LO4.out; have := B3.out.size; have := B4.out.size; rintro j (h | h) <;> omega))
    have SZ8 := Lib.hid (show w4.heap.size ≤ w8.heap.size from o8.size)
    obtain ⟨rr, hrr⟩ : ∃ rr, runL K16 t E (9 : Int).toNat ⟨0, fun _ => 0, setB (noughts 128) 0 (l1.take 100)⟩ = rr := ⟨_, rfl⟩
    rw [hrr] at CV MM8 BL8 ⊢
    have HRR := Lib.hid hrr
    clear own8 mm8 bl8 o8 hcv hrr
    go_wp2_with fail
    generalize hMA : Array.setIfInBounds (Array.setIfInBounds _ _ _) _ _ = MAr
    have T0 := Lib.hid (machT_new w8 (X := X) (F := 9) hMA.symm)
    have BA := Lib.hid (show Below w8.heap.size w8 (w8.alloc (.cells MAr 49)) from (Below.refl _ _).alloc (Nat.le_refl _) _)
    obtain ⟨RB, hRB⟩ : ∃ RB, w8.heap.size = RB := ⟨_, rfl⟩
    have RBW := Lib.hid (show RB < (w8.alloc (.cells MAr 49)).heap.size by simp; omega)
    have RB9 := Lib.hid (show w8.heap.size ≤ RB ∧ RB ≤ w8.heap.size by omega)
    have XA := Lib.hid (X8.out.out (Out.of_below (fun _ => False) BA.out) id (fun _ _ => id))
    rw [hRB] at T0 ⊢
    generalize hWA : w8.alloc (.cells MAr 49) = WA at *
    clear hMA hRB hWA
    have S3A := Lib.hid (S38.out.later BA.out)
    have VB := Lib.hid (show ∀ j, v0.ownBlock = some j → X + 1 ≤ j ∧ j < w4.heap.size from fun j hj => X4.out.own.lt j hj)
    have DM0 := Lib.hid (show DM RB X (X + 1) 9 K16 128 v0 WA (100 + 4 * 0) (fun _ => 0) (setB (noughts 128) 0 (l1.take 100)) ((0 : Nat) : Int) 0 WA from
      ⟨T0.out, ⟨L0, v0, by rw [show K16.Fb.length = 256 from noughts_lenM 256]; exact XA.out, AG4.out, by have := LN4.out; rw [List.length_take] at this; omega, fun j hj => .inl hj⟩, .refl _ _, (fun k => ⟨Int.le_refl 0, by show (0 : Int) < 4294967296; decide⟩), setB_len (take100 l1)⟩)
    have DOES := Lib.hid (show Calls Try.prog 22 #[.pointer (some ⟨RB, 0, none⟩), .slice (some ⟨b1, 0, none⟩) 3 3, .int .i64 0, .int .i64 3] WA (DoesEnd RB X (X + 1) 9 K16 128 v0 WA 100 t E 0 t.length ⟨0, fun _ => 0, setB (noughts 128) 0 (l1.take 100)⟩ 0) by
      have D := rdoes_any RB X (X + 1) 9 K16 128 v0 WA 100 t E b1 0 3 HP.out hll (by have := RB9.out; have := XW4.out; have := SZ8.out; omega) (fun h => by have := VB.out _ h; have := RB9.out; have := SZ8.out; omega) RBW.out (by have := banks16 (take100 l1); rwa [setB_len (take100 l1)] at this) MA.out.fF (by omega) (by decide) S3A.out (by
        have q1 := RB9.out; have q2 := RBW.out; have q3 := SZ8.out; have q6 := LO4.out; have q7 := HI4.out; have q8 := HB13.out; have q9 := Z34.out
        rintro (h | h | h | h)
        · omega
        · omega
        · have := VB.out _ h; omega
        · omega) t.length 0 t.length 0 ⟨0, fun _ => 0, setB (noughts 128) 0 (l1.take 100)⟩ WA (by omega) HP.out.bal (Nat.le_refl _) rfl (by decide) DM0.out
      rw [ESL.out, ENL.out] at D
      exact D)
    refine DOES.out.mono ?_
    rintro e wB ⟨rfl, n, s', tt, hre, hdm, hways, hbd⟩
    have HRUN := ways_run hre hways hbd
    rw [HRR.out] at HRUN
    subst HRUN
    have HDM := Lib.hid hdm
    clear hre hdm hways hbd DOES DM0
    obtain ⟨L9, v9, hx9, hag9, _, _⟩ := HDM.out.x
    have X9 := Lib.hid (show RefIs X (X + 1) 4096 256 2147483648 128 L9 v9 wB by have := hx9; rw [show K16.Fb.length = 256 from noughts_lenM 256] at this; exact this)
    have AG9 := Lib.hid hag9
    clear hx9 hag9
    have NSD := Lib.hid (show ∀ j, j < w8.heap.size → j ≠ X → (∀ q, v0.ownBlock = some q → q ≠ j) → ¬ SD0 RB X v0 WA j from fun j h1 h2 h3 h => by
      have := RB9.out; have := RBW.out
      rcases h with h | h | h | h
      · omega
      · exact h2 h
      · exact h3 j h rfl
      · omega)
    have MM9 := Lib.hid (show MemIs M F R K16.ff K16.rr K16.Fb s'.b wB from ((MM8.out.out (Out.of_below (fun _ => False) BA.out) id id id).out HDM.out.o
      (NSD.out _ (by have := LT1.out; have := SZ8.out; omega) (by have := HI4.out; omega) (fun q hq => by have := VB.out q hq; have := HI4.out; omega))
      (NSD.out _ (by have := LT1.out; have := SZ8.out; omega) (by have := HI4.out; omega) (fun q hq => by have := VB.out q hq; have := HI4.out; omega))
      (NSD.out _ (by have := LT1.out; have := SZ8.out; omega) (by have := HI4.out; omega) (fun q hq => by have := VB.out q hq; have := HI4.out; omega))))
    have NG := Lib.hid (NSD.out gv hgv2 (by have := XW4.out; omega) (fun q hq => by have := VB.out q hq; omega))
    have CV9 := Lib.hid (show ∀ k, k < 64 → wB.cell? ⟨gv, k, none⟩ = some (.int .u32 (s'.f k)) from fun k hk =>
      (HDM.out.o.cell (p := ⟨gv, k, none⟩) (by show gv < WA.heap.size; have := BA.out.size; omega) NG.out).trans ((BA.out.cell (p := ⟨gv, k, none⟩) (by show gv < w8.heap.size; omega)).trans (CV.out k hk)))
    have BB := Lib.hid (show Below w.heap.size w wB from HDM.out.o.below (B8.out.trans (BA.out.mono (by have := B8.out.size; omega))) (Nat.le_refl _) (by
      have q1 := B8.out.size; have q3 := RB9.out; have q4 := RBW.out; have q5 := B4.out.size; have q6 := LO4.out; have q7 := HI4.out; have q8 := B3.out.size
      rintro j (h | h | h | h)
      · omega
      · omega
      · have := VB.out j h; omega
      · omega))
    have GVL := Lib.hid (show gv < wB.heap.size by have := BA.out.size; have := HDM.out.o.size; omega)
    have MT := Lib.hid HDM.out.m
    have BLB := Lib.hid (show s'.b.length = 128 from HDM.out.bl)
    clear HDM NSD NG CV MM8 BL8 O8
    obtain ⟨ps, fs, bs⟩ := s'
    simp only at MT CV9 X9 AG9 MM9 BLB ⊢
    have RG := Lib.hid (show wB.rangeAt RB 1 (cellsF fs) from fun j v hj => by
      obtain ⟨hjl, _⟩ := List.getElem?_eq_some_iff.1 hj
      rw [cellsF_len] at hjl
      rw [cellsF_at _ hjl] at hj
      cases hj
      exact MT.out.v j hjl)
    have SZR := Lib.hid (show (Try.prog.info? 47).map (·.size) = some (cellsF fs).length by rw [cellsF_len]; kernel_rfl)
    have SAME := Lib.hid (sameV_eq gv cv (cellsF fs).toArray fs wB (fun k hk => by simpa using cellsF_at fs hk) CV9.out GVL.out)
    obtain ⟨cs, hcs⟩ : ∃ cs, cellsF fs = cs := ⟨_, rfl⟩
    rw [hcs] at RG SZR SAME
    clear hcs
    go_wp2_with (refine wpList_load_mid rfl 47 (.tmp 53) rfl RB 1 rfl cs _ RG.out Try.underlying47 rfl SZR.out ?_)
    refine SAME.out.mono ?_
    rintro e wC ⟨rfl, bC⟩
    have MC := Lib.hid (MT.out.out (Out.of_below (fun _ => False) bC) id)
    have XC := Lib.hid (X9.out.out (Out.of_below (fun _ => False) bC) id (fun _ _ => id))
    have MMC := Lib.hid (MM9.out.out (Out.of_below (fun _ => False) bC) id id id)
    have BC := Lib.hid (BB.out.trans (bC.mono BB.out.size))
    clear bC RG SAME
    have cst := MC.out.st
    have ctr := MC.out.tr
    rw [Nat.zero_add] at cst
    go_wp2_with fail
    refine (bytesV_eq (Fb := noughts 256) MMC.out (noughts_lenM 256) BLB.out XC.out AG9.out).mono ?_
    rintro e wD ⟨rfl, bD⟩
    have BD := Lib.hid (BC.out.trans (bD.mono BC.out.size))
    clear bD cst ctr
    go_wp2_with fail
    refine (lives16 wD).mono ?_
    rintro e wE ⟨rfl, bE⟩
    go_wp2_with fail
    go_ret
    exact ⟨rfl, BD.out.trans (bE.mono BD.out.size)⟩
  · obtain ⟨z, hz⟩ : ∃ z, checkS t = z := ⟨_, rfl⟩
    have hz1 : (z != 0) = true := by rw [← hz]; simpa using hc
    rw [hz] at RCK
    refine RCK.mono ?_
    clear RCK hz hc hb1
    rintro e w9 ⟨rfl, b9⟩
    have B9 := Lib.hid (B2.out.trans (b9.mono B2.out.size))
    clear b9
    go_wp2_with fail
    refine (lives16 w9).mono ?_
    rintro e wE ⟨rfl, bE⟩
    go_wp2_with fail
    go_ret
    exact ⟨rfl, B9.out.trans (bE.mono B9.out.size)⟩

theorem own : ownKnob Try.prog.godebug = none := by kernel_rfl
theorem laidOut : laidOutB Try.prog = true := by kernel_rfl
set_option maxRecDepth 100000 in
theorem lifted_LirrunOne (os : Os) (started : os.Started) (H : Type) (enc : TypeId × Value → H) :
    ReturnsInHanded {} Try.checked os 4 .any (Rows.lirrunOneSpec.pre6 enc Try.prog Try.f4 Rows.lirrunOneRow.domain false) (Rows.lirrunOneSpec.post enc Try.prog Try.f4 false true false false) := by
  refine returnsInHanded_of_change (C := Try.checked) own started (by kernel_rfl) Try.func4
    (ChangeSpec.witness6 (enc := enc) (C := Try.checked) false ⟨#[], #[.agg #[.int .i64 0, .int .i64 0, .int .i64 0, .int .i64 0, .int .i32 0], .int .u32 0, .int .u32 0], []⟩ 8 (by kernel_rfl) (by kernel_rfl) (by kernel_rfl) (by kernel_rfl)) ?_
  intro W base args ds gs before hval0 hW hcnd _
  have hval : ∀ (j : Nat) t v, Try.f4.params[j]? = some t → args[j]? = some v → Value.okWide Try.prog W .any base t v := hval0
  have hW' := hW
  obtain ⟨p, q, hA0, hV, rfl, hfz, hnd⟩ := hW
  have hA : DataW.TrodAll enc Try.prog W 0 (fun _ => true) true Try.f4.params.toList args.toList ds p := hA0
  rw [Try.params4] at hA hval
  obtain ⟨v0, vs0, d0, ds0, p0, q0, hargs, rfl, rfl, h0, r0⟩ := trodAll_cons hA
  obtain ⟨v1, vs1, d1, ds1, p1, q1, rfl, rfl, rfl, h1, r1⟩ := trodAll_cons r0
  obtain ⟨v2, vs2, d2, ds2, p2, q2, rfl, rfl, rfl, h2, r2⟩ := trodAll_cons r1
  obtain ⟨rfl, rfl, rfl⟩ := trodAll_nil r2
  obtain rfl : args = #[v0, v1, v2] := by cases args; simp_all
  obtain ⟨rfl, rfl⟩ := trodVars_none hV
  have k0 := h0
  have lt0 : ∀ x ∈ p0, x.block < W.heap.size := by obtain ⟨m, hm⟩ := k0; exact DataW.trod_lt m _ _ _ hm
  obtain ⟨zs0, zl0, rfl, zw0⟩ := flat_ints [.i64, .i64, .i64, .i64, .i32] (ts := [3, 3, 3, 3, 21]) (Or.inl ⟨_, Try.underlying29⟩) (by kernel_rfl) (by kernel_rfl) (by kernel_rfl) (hval 0 29 v0 rfl rfl)
  obtain ⟨a0_0, a0_1, a0_2, a0_3, a0_4, rfl⟩ := len5 zl0
  obtain ⟨a1, rfl, rfl, rfl, w1⟩ := open_int Try.underlying37 (hval 1 37 v1 rfl rfl) h1
  obtain ⟨a2, rfl, rfl, rfl, w2⟩ := open_int Try.underlying37 (hval 2 37 v2 rfl rfl) h2
  clear hA0 hval0
  refine (walk_LirrunOne a0_0 a0_1 a0_2 a0_3 a0_4 a1 a2 (zw0 0 .i64 _ rfl rfl) (zw0 1 .i64 _ rfl rfl) (zw0 2 .i64 _ rfl rfl) (zw0 3 .i64 _ rfl rfl) (zw0 4 .i32 _ rfl rfl) w1 w2 W).mono fun e W' ⟨he, bel⟩ => ?_
  subst he
  exact ⟨_, rfl, _, _, _, [], _, [], hW', trodAll_mk1 (shut_bool Try.underlying4 _), (trodAll_cons_mk (Below.trod laidOut (by kernel_rfl) (of_decide_eq_true (by kernel_rfl)) k0 bel lt0) (trodAll_cons_mk (shut_int Try.underlying37 w1) (trodAll_cons_mk (shut_int Try.underlying37 w2) trodAll_mk0))), rfl, bel.frame _, fun h => by cases h⟩

theorem holds_LirrunOne : Rows.LirrunOneSaid :=
  OpenClaim.holds_of_wide 4 Try.f4 rfl rfl rfl rfl rfl rfl rfl ⟨rfl, rfl, rfl, rfl, rfl⟩ rfl rfl rfl rfl rfl (by kernel_rfl) Try.func4 (by kernel_rfl)
    (of_decide_eq_true (by kernel_rfl)) (by unfold Func.isWrapper; first | (rw [if_pos (by decide +kernel)]; kernel_rfl) | (rw [if_neg (by decide +kernel)]; exact ⟨rfl, rfl⟩))
    (fun os started H enc _ => lifted_LirrunOne os started H enc)

end Go.Proofs.Ytghclbeoabkgcaa
