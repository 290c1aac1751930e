/- The statement of layer 6 on one instruction: it returns true for all of them, over the table of three bits. -/
import Derived.Test.YtnkfdpkcnfefeaaDoorRows
import Derived.Test.YtnkfdpkcnfefeaaDoorCards
import Derived.Test.YtnkfdpkcnfefeaaDoorTie
import Derived.Test.YtnkfdpkcnfefeaaDoorGW
import Derived.Test.YtnkfdpkcnfefeaaDoorGV
import Derived.Test.YtnkfdpkcnfefeaaDoorOpen
import Derived.ProofKit
import Derived.OpenShut
import Derived.LaidMore
import Derived.Lib.LaidTab
import Derived.Stop.Joined
import Derived.SevenTiedAt
namespace Go.Proofs.YtnkfdpkcnfefeaaDoor
open Go Go.RowKit Go.ChangeShapes Go.WideShapes Go.ChangeAt Pl
set_option linter.unusedVariables false

/-- registers in a row -/
structure RegRow (B : Nat) (l : List Nat) (W : World) : Prop where
  len : l.length = 31
  c : ∀ k, k < 31 → W.cell? ⟨B, k, none⟩ = some (.int .u32 (l.getD k 0 : Nat))
  fz : ∀ k, k < 31 → W.frozen? ⟨B, k, none⟩ = false
  lt : B < W.heap.size
theorem RegRow.set {B : Nat} {l : List Nat} {W : World} (h : RegRow B l W) (j x : Nat) (hj : j < 31) : RegRow B (l.set j x) (W.setCell ⟨B, j, none⟩ (.int .u32 (x : Nat))) :=
  { len := by rw [List.length_set]; exact h.len
    c := fun k hk => by
      by_cases e : j = k
      · subst e
        have g : (l.set j x).getD j 0 = x := by simp [List.getD, h.len, hj]
        rw [g]
        exact World.cell?_setCell_same _ _ _ (h.c j hj)
      · rw [World.cell?_setCell_other (h := fun g => e (by cases g; rfl))]
        have g : (l.set j x).getD k 0 = l.getD k 0 := by simp [List.getD, List.getElem?_set_ne e]
        rw [g]
        exact h.c k hk
    fz := fun k hk => by rw [World.frozen?_setCell]; exact h.fz k hk
    lt := by rw [World.size_setCell]; exact h.lt }
theorem RegRow.words {B : Nat} {l : List Nat} {W W' : World} (h : RegRow B l W) (hb : Below W.heap.size W W') (hl : ∀ y ∈ l, y < 4294967296) : WordsIn W' (some ⟨B, 0, none⟩) l :=
  ⟨hl, by rw [h.len]; omega, .inr ⟨B, 0, rfl, Nat.lt_of_lt_of_le h.lt hb.size, fun k hk => by
    rw [Nat.zero_add]
    exact (hb.cell (p := ⟨B, k, none⟩) h.lt).trans (h.c k (by rw [h.len] at hk; exact hk))⟩⟩
theorem words_one (W : World) (x : Nat) (hx : x < 4294967296) : WordsIn (W.alloc (.cells #[.int .u32 (x : Nat)] 24)) (some ⟨W.heap.size, 0, none⟩) [x] :=
  ⟨fun y hy => by (obtain rfl : y = x := by simpa using hy); exact hx, by simp, .inr ⟨W.heap.size, 0, rfl, by simp, fun k hk => by
    obtain rfl : k = 0 := by simpa using hk
    rw [cell_of_row _ W.heap.size 0 _ _ _ (heap_alloc_new W _)]
    rfl⟩⟩
theorem info_u32O : (Tryd.prog.info? 24).map (fun i => (i.zero, i.size, i.bytes)) = some (some (.int .u32 0), 1, 4) := by kernel_rfl
theorem row_new (W : World) : RegRow W.heap.size (noughts 31) (W.alloc (.cells (madeCells #[.int .u32 0] 31) 24)) :=
  { len := noughts_len _
    c := fun k hk => by
      rw [cell_of_row _ W.heap.size k _ _ _ (heap_alloc_new W _)]
      have e : (noughts 31).getD k 0 = 0 := by unfold noughts; rw [List.getD_eq_getElem?_getD, List.getElem?_replicate, if_pos hk]; rfl
      have e1 : k % 1 = 0 := Nat.mod_one k
      rw [e]
      simp [madeCells, hk, e1]
    fz := fun k hk => by unfold World.frozen?; rw [heap_alloc_new]; simp
    lt := by simp }
set_option maxRecDepth 100000 in
set_option maxHeartbeats 4000000 in
theorem one_no (o d u v im : Int) (a b : Int) (i0 : -2147483648 ≤ im) (i1 : im ≤ 2147483647) (hc : canI ⟨o, d, u, v, im⟩ = false) (w : World) (ht : T3 w) :
    Calls Tryd.prog 3 #[.agg #[.int .i64 o, .int .i64 d, .int .i64 u, .int .i64 v, .int .i32 im], .int .u32 a, .int .u32 b] w fun e w' => e = .returned (.bool true) ∧ Below w.heap.size w w' := by
  have RE := Lib.hid (fun W' => renc_any o d u v im W' i0 i1)
  have HC := Lib.hid hc
  have HT := Lib.hid ht
  clear hc ht i0 i1
  go_enter Tryd.func3, Tryd.ntmps3
  go_wp2_with fail
  refine (RE.out _).mono ?_
  rintro e w1 ⟨he, hb⟩
  rw [HC.out] at he
  subst he
  have BW := Lib.hid (((Below.refl w.heap.size w).alloc (Nat.le_refl _) _).trans (hb.mono (by simp)))
  clear hb
  go_wp2_with fail
  refine (lives06 w1 (HT.out.later BW.out)).mono ?_
  rintro e w2 ⟨rfl, hb2⟩
  go_wp2_with fail
  go_ret
  exact ⟨rfl, BW.out.trans (hb2.mono BW.out.size)⟩
set_option maxRecDepth 100000 in
set_option maxHeartbeats 8000000 in
theorem one_uv (o : Int) (d : Nat) (u : Nat) (hu1 : 1 ≤ u) (hu : u < 32) (v : Nat) (hv1 : 1 ≤ v) (hv : v < 32) (im : Int) (ra rb : Nat) (ha : ra < 4294967296) (hb : rb < 4294967296) (x : Nat) (hx : x < 4294967296)
    (re : ∀ W', Calls Tryd.prog 6 #[.agg #[.int .i64 o, .int .i64 (d : Nat), .int .i64 (u : Nat), .int .i64 (v : Nat), .int .i32 im]] W' fun e w' => e = .returned (.tuple #[.int .u32 (x : Nat), .bool true]) ∧ Below W'.heap.size W' w') (w : World) (ht : T3 w) :
    Calls Tryd.prog 3 #[.agg #[.int .i64 o, .int .i64 (d : Nat), .int .i64 (u : Nat), .int .i64 (v : Nat), .int .i32 im], .int .u32 (ra : Nat), .int .u32 (rb : Nat)] w fun e w' => e = .returned (.bool true) ∧ Below w.heap.size w w' := by
  have hm1 := fun W => run_make_row' (P := Tryd.prog) 28 24 (.int .u32 0) 4 Tryd.underlying28 info_u32O rfl .i64 .i64 31 (by omega) (by omega) W
  push_cast at hm1
  have RE := Lib.hid re
  have HT := Lib.hid ht
  clear re ht
  go_enter Tryd.func3, Tryd.ntmps3
  go_wp2_with fail
  have I0 := Lib.hid (insAt_of (heap_alloc_new w (.cells #[.int .i64 o, .int .i64 (d : Nat), .int .i64 (u : Nat), .int .i64 (v : Nat), .int .i32 im] 23)))
  have B0 := Lib.hid (show Below w.heap.size w (w.alloc (.cells #[.int .i64 o, .int .i64 (d : Nat), .int .i64 (u : Nat), .int .i64 (v : Nat), .int .i32 im] 23)) from (Below.refl _ _).alloc (Nat.le_refl _) _)
  have szw : (w.alloc (.cells #[.int .i64 o, .int .i64 (d : Nat), .int .i64 (u : Nat), .int .i64 (v : Nat), .int .i32 im] 23)).heap.size = w.heap.size + 1 := by simp
  generalize World.alloc _ _ = W0 at *
  refine (RE.out W0).mono ?_
  rintro e w1 ⟨rfl, hb1⟩
  have I1 := Lib.hid (I0.out.out (Out.of_below (fun _ => False) hb1) id)
  have B1 := Lib.hid (B0.out.trans (hb1.mono B0.out.size))
  have sz1 : w.heap.size + 1 ≤ w1.heap.size := by have := hb1.size; omega
  clear I0 B0 hb1 RE szw
  go_upto_region 5 with (fail)
  have b2 : Below w1.heap.size w1 (w1.alloc (.cells (madeCells #[.int .u32 0] 31) 24)) := (Below.refl _ _).alloc (Nat.le_refl _) _
  have RR := Lib.hid (row_new w1)
  have IN := Lib.hid (I1.out.out (Out.of_below (fun _ => False) b2) id)
  have BW := Lib.hid (B1.out.trans (b2.mono B1.out.size))
  have LT := Lib.hid (show ∀ y ∈ noughts 31, y < 4294967296 from fun y hy => by have := noughts_lt 31 y hy; omega)
  have IR := Lib.hid (show w.heap.size ≠ w1.heap.size by omega)
  have RG := Lib.hid (show w.heap.size ≤ w1.heap.size by omega)
  clear b2 I1 B1 hm1 sz1
  generalize noughts 31 = l at *
  generalize w1.heap.size = RB at *
  generalize World.alloc _ _ = W1 at *
  have in2 := IN.out.c2
  have in3 := IN.out.c3
  obtain ⟨ju, hju, hlu⟩ : ∃ j : Nat, (u : Int) - 1 = (j : Int) ∧ j < 31 := ⟨u - 1, by omega, by omega⟩
  have pu : (0 : Int) < (u : Int) := by omega
  have qu : (ju : Int) < 31 := by omega
  have cl := RR.out.c ju hlu
  have fl := RR.out.fz ju hlu
  have in2 := IN.out.c2
  have in3 := IN.out.c3
  have hIB : w.heap.size ≠ RB := IR.out
  go_upto_region 7 with (fail)
  have RR2 := Lib.hid (RR.out.set ju ra hlu)
  have LT2 := Lib.hid (show ∀ y ∈ l.set ju ra, y < 4294967296 from fun y hy => by
    rcases List.mem_or_eq_of_mem_set hy with g | g
    · exact LT.out y g
    · omega)
  have oS := out_cell RB ju (.int .u32 (ra : Nat)) W1
  have BWs := Lib.hid (show Below w.heap.size w (W1.setCell ⟨RB, ju, none⟩ (.int .u32 (ra : Nat))) from oS.below BW.out (Nat.le_refl _) (fun i e => by subst e; exact RG.out))
  have INs := Lib.hid (IN.out.out oS hIB)
  clear RR LT BW IN cl fl in2 in3 oS hIB
  generalize World.setCell _ _ _ = W2 at *
  obtain ⟨W1, rfl⟩ : ∃ W1 : World, W1 = W2 := ⟨_, rfl⟩
  generalize l.set ju ra = l at *
  have RR := Lib.hid RR2.out
  have LT := Lib.hid LT2.out
  have BW := Lib.hid BWs.out
  have IN := Lib.hid INs.out
  clear RR2 LT2 BWs INs
  have in2 := IN.out.c2
  have in3 := IN.out.c3
  obtain ⟨jv, hjv, hlv⟩ : ∃ j : Nat, (v : Int) - 1 = (j : Int) ∧ j < 31 := ⟨v - 1, by omega, by omega⟩
  have pv : (0 : Int) < (v : Int) := by omega
  have qv : (jv : Int) < 31 := by omega
  have cl := RR.out.c jv hlv
  have fl := RR.out.fz jv hlv
  have in2 := IN.out.c2
  have in3 := IN.out.c3
  have hIB : w.heap.size ≠ RB := IR.out
  go_upto_region 9 with (fail)
  have RR2 := Lib.hid (RR.out.set jv rb hlv)
  have LT2 := Lib.hid (show ∀ y ∈ l.set jv rb, y < 4294967296 from fun y hy => by
    rcases List.mem_or_eq_of_mem_set hy with g | g
    · exact LT.out y g
    · omega)
  have oS := out_cell RB jv (.int .u32 (rb : Nat)) W1
  have BWs := Lib.hid (show Below w.heap.size w (W1.setCell ⟨RB, jv, none⟩ (.int .u32 (rb : Nat))) from oS.below BW.out (Nat.le_refl _) (fun i e => by subst e; exact RG.out))
  have INs := Lib.hid (IN.out.out oS hIB)
  clear RR LT BW IN cl fl in2 in3 oS hIB
  generalize World.setCell _ _ _ = W2 at *
  obtain ⟨W1, rfl⟩ : ∃ W1 : World, W1 = W2 := ⟨_, rfl⟩
  generalize l.set jv rb = l at *
  have RR := Lib.hid RR2.out
  have LT := Lib.hid LT2.out
  have BW := Lib.hid BWs.out
  have IN := Lib.hid INs.out
  clear RR2 LT2 BWs INs
  have in2 := IN.out.c2
  have in3 := IN.out.c3
  go_upto_region 9 with (fail)
  have hzB := RR.out.lt
  have b0 : Below W1.heap.size W1 (W1.alloc (.cells #[.int .u32 (x : Nat)] 24)) := (Below.refl _ _).alloc (Nat.le_refl _) _
  have BG := Lib.hid (begins_any (W1.alloc (.cells #[.int .u32 (x : Nat)] 24)) (some ⟨W1.heap.size, 0, none⟩) 1 [x] (words_one W1 x hx) (some ⟨RB, 0, none⟩) 31 l (RR.out.words b0 LT.out))
  have HT2 := Lib.hid (HT.out.later (BW.out.trans (b0.mono BW.out.size)))
  have BW2 := Lib.hid (BW.out.alloc BW.out.size (.cells #[.int .u32 (x : Nat)] 24))
  have l31 : l.length = 31 := RR.out.len
  rw [l31] at BG
  clear BW HT RR LT b0 l31
  generalize begS l = s at *
  generalize begF [x] = Fb at *
  go_wp2_with fail
  refine BG.out.mono ?_
  rintro e w1 ⟨M, F, R, X, rfl, hD⟩
  have HD := Lib.hid hD
  clear hD BG
  generalize World.alloc _ _ = WW at *
  have CS := Lib.hid (HD.out.cstep HT2.out)
  have RS := Lib.hid (fun W0 (hD : Duo WW M F R X Fb (stepM 4096 2147483648 Fb s).s s 240 W0) W' (hb : Below W0.heap.size W0 W') => hD.rstep hb (by omega) hD.mem.fR)
  clear HD
  generalize stepM 4096 2147483648 Fb s = o2 at *
  obtain ⟨⟨p, wd, k, a, z⟩, t, s2⟩ := o2
  simp only [MEv.v] at CS RS
  go_wp2_with fail
  refine CS.out.mono ?_
  rintro e w2 ⟨rfl, hD2, _⟩
  have D2 := Lib.hid hD2
  clear CS hD2
  go_upto_region 13 with (fail)
  have b3 : Below w2.heap.size w2 (w2.alloc (.cells #[.int .u32 (p : Nat), .int .u32 (wd : Nat), .int .i64 k, .int .u32 (a : Nat), .int .i64 z] 34)) := (Below.refl _ _).alloc (Nat.le_refl _) _
  have E3 := Lib.hid (evAt_of (heap_alloc_new w2 (.cells #[.int .u32 (p : Nat), .int .u32 (wd : Nat), .int .i64 k, .int .u32 (a : Nat), .int .i64 z] 34)))
  have RS3 := Lib.hid (RS.out w2 D2.out _ b3)
  have hx2 := D2.out.xlt
  have sz3 : (w2.alloc (.cells #[.int .u32 (p : Nat), .int .u32 (wd : Nat), .int .i64 k, .int .u32 (a : Nat), .int .i64 z] 34)).heap.size = w2.heap.size + 1 := by simp
  clear b3 D2 RS
  generalize w2.heap.size = EB at *
  generalize World.alloc _ _ = W3 at *
  go_wp2_with fail
  refine RS3.out.mono ?_
  rintro e w4 ⟨rfl, hD4, ho4, hk4⟩
  have q4 := hk4 EB (Nat.le_refl _) (by omega)
  have E4 := Lib.hid (show EvAt EB p wd k a z w4 from ⟨(World.cell?_of_block q4).trans E3.out.c0, (World.cell?_of_block q4).trans E3.out.c1, (World.cell?_of_block q4).trans E3.out.c2, (World.cell?_of_block q4).trans E3.out.c3, (World.cell?_of_block q4).trans E3.out.c4, fun j hj => (World.frozen?_of_block (a := ⟨EB, j, none⟩) q4).trans (E3.out.f j hj), Nat.lt_of_lt_of_le E3.out.lt ho4.size⟩)
  have D4 := Lib.hid hD4
  clear RS3 E3 hD4 ho4 hk4 q4
  go_upto_region 14 with (fail)
  have b5 : Below w4.heap.size w4 (w4.alloc (.cells #[.int .u32 (p : Nat), .int .u32 (wd : Nat), .int .i64 k, .int .u32 (a : Nat), .int .i64 z] 34)) := (Below.refl _ _).alloc (Nat.le_refl _) _
  have F5 := Lib.hid (evAt_of (heap_alloc_new w4 (.cells #[.int .u32 (p : Nat), .int .u32 (wd : Nat), .int .i64 k, .int .u32 (a : Nat), .int .i64 z] 34)))
  have E5 := Lib.hid (E4.out.out (Out.of_below (fun _ => False) b5) id)
  have D5 := Lib.hid (D4.out.below b5)
  clear b5 D4 E4
  generalize w4.heap.size = FB at *
  generalize World.alloc _ _ = W5 at *
  have e0 := E5.out.c0
  have f0 := F5.out.c0
  have e1 := E5.out.c1
  have f1 := F5.out.c1
  have e2 := E5.out.c2
  have f2 := F5.out.c2
  have e3 := E5.out.c3
  have f3 := F5.out.c3
  have e4 := E5.out.c4
  have f4 := F5.out.c4
  have SM := Lib.hid (same_any D5.out.mach D5.out.rm)
  go_wp2_with fail
  refine SM.out.mono ?_
  rintro e w6 ⟨rfl, hl6⟩
  have D6 := Lib.hid (D5.out.like hl6)
  clear SM hl6 E5 F5 D5 e0 e1 e2 e3 e4 f0 f1 f2 f3 f4
  have BY := Lib.hid (bytes_any D6.out rfl)
  go_wp2_with fail
  refine BY.out.mono ?_
  rintro e w7 ⟨rfl, hb7⟩
  have B7 := Lib.hid (D6.out.bl.trans (hb7.mono D6.out.bl.size))
  clear BY hb7 D6
  go_wp2_with fail
  refine (lives06 w7 (HT2.out.later B7.out)).mono ?_
  rintro e w8 ⟨rfl, hb8⟩
  go_wp2_with fail
  go_ret
  exact ⟨rfl, BW2.out.trans ((B7.out.trans (hb8.mono B7.out.size)).mono BW2.out.size)⟩
set_option maxRecDepth 100000 in
set_option maxHeartbeats 8000000 in
theorem one_u (o : Int) (d : Nat) (u : Nat) (hu1 : 1 ≤ u) (hu : u < 32)  (im : Int) (ra rb : Nat) (ha : ra < 4294967296) (hb : rb < 4294967296) (x : Nat) (hx : x < 4294967296)
    (re : ∀ W', Calls Tryd.prog 6 #[.agg #[.int .i64 o, .int .i64 (d : Nat), .int .i64 (u : Nat), .int .i64 ((0 : Nat) : Int), .int .i32 im]] W' fun e w' => e = .returned (.tuple #[.int .u32 (x : Nat), .bool true]) ∧ Below W'.heap.size W' w') (w : World) (ht : T3 w) :
    Calls Tryd.prog 3 #[.agg #[.int .i64 o, .int .i64 (d : Nat), .int .i64 (u : Nat), .int .i64 ((0 : Nat) : Int), .int .i32 im], .int .u32 (ra : Nat), .int .u32 (rb : Nat)] w fun e w' => e = .returned (.bool true) ∧ Below w.heap.size w w' := by
  have hm1 := fun W => run_make_row' (P := Tryd.prog) 28 24 (.int .u32 0) 4 Tryd.underlying28 info_u32O rfl .i64 .i64 31 (by omega) (by omega) W
  push_cast at hm1
  have RE := Lib.hid re
  have HT := Lib.hid ht
  clear re ht
  go_enter Tryd.func3, Tryd.ntmps3
  go_wp2_with fail
  have I0 := Lib.hid (insAt_of (heap_alloc_new w (.cells #[.int .i64 o, .int .i64 (d : Nat), .int .i64 (u : Nat), .int .i64 ((0 : Nat) : Int), .int .i32 im] 23)))
  have B0 := Lib.hid (show Below w.heap.size w (w.alloc (.cells #[.int .i64 o, .int .i64 (d : Nat), .int .i64 (u : Nat), .int .i64 ((0 : Nat) : Int), .int .i32 im] 23)) from (Below.refl _ _).alloc (Nat.le_refl _) _)
  have szw : (w.alloc (.cells #[.int .i64 o, .int .i64 (d : Nat), .int .i64 (u : Nat), .int .i64 ((0 : Nat) : Int), .int .i32 im] 23)).heap.size = w.heap.size + 1 := by simp
  generalize World.alloc _ _ = W0 at *
  refine (RE.out W0).mono ?_
  rintro e w1 ⟨rfl, hb1⟩
  have I1 := Lib.hid (I0.out.out (Out.of_below (fun _ => False) hb1) id)
  have B1 := Lib.hid (B0.out.trans (hb1.mono B0.out.size))
  have sz1 : w.heap.size + 1 ≤ w1.heap.size := by have := hb1.size; omega
  clear I0 B0 hb1 RE szw
  go_upto_region 5 with (fail)
  have b2 : Below w1.heap.size w1 (w1.alloc (.cells (madeCells #[.int .u32 0] 31) 24)) := (Below.refl _ _).alloc (Nat.le_refl _) _
  have RR := Lib.hid (row_new w1)
  have IN := Lib.hid (I1.out.out (Out.of_below (fun _ => False) b2) id)
  have BW := Lib.hid (B1.out.trans (b2.mono B1.out.size))
  have LT := Lib.hid (show ∀ y ∈ noughts 31, y < 4294967296 from fun y hy => by have := noughts_lt 31 y hy; omega)
  have IR := Lib.hid (show w.heap.size ≠ w1.heap.size by omega)
  have RG := Lib.hid (show w.heap.size ≤ w1.heap.size by omega)
  clear b2 I1 B1 hm1 sz1
  generalize noughts 31 = l at *
  generalize w1.heap.size = RB at *
  generalize World.alloc _ _ = W1 at *
  have in2 := IN.out.c2
  have in3 := IN.out.c3
  obtain ⟨ju, hju, hlu⟩ : ∃ j : Nat, (u : Int) - 1 = (j : Int) ∧ j < 31 := ⟨u - 1, by omega, by omega⟩
  have pu : (0 : Int) < (u : Int) := by omega
  have qu : (ju : Int) < 31 := by omega
  have cl := RR.out.c ju hlu
  have fl := RR.out.fz ju hlu
  have in2 := IN.out.c2
  have in3 := IN.out.c3
  have hIB : w.heap.size ≠ RB := IR.out
  go_upto_region 7 with (fail)
  have RR2 := Lib.hid (RR.out.set ju ra hlu)
  have LT2 := Lib.hid (show ∀ y ∈ l.set ju ra, y < 4294967296 from fun y hy => by
    rcases List.mem_or_eq_of_mem_set hy with g | g
    · exact LT.out y g
    · omega)
  have oS := out_cell RB ju (.int .u32 (ra : Nat)) W1
  have BWs := Lib.hid (show Below w.heap.size w (W1.setCell ⟨RB, ju, none⟩ (.int .u32 (ra : Nat))) from oS.below BW.out (Nat.le_refl _) (fun i e => by subst e; exact RG.out))
  have INs := Lib.hid (IN.out.out oS hIB)
  clear RR LT BW IN cl fl in2 in3 oS hIB
  generalize World.setCell _ _ _ = W2 at *
  obtain ⟨W1, rfl⟩ : ∃ W1 : World, W1 = W2 := ⟨_, rfl⟩
  generalize l.set ju ra = l at *
  have RR := Lib.hid RR2.out
  have LT := Lib.hid LT2.out
  have BW := Lib.hid BWs.out
  have IN := Lib.hid INs.out
  clear RR2 LT2 BWs INs
  have in2 := IN.out.c2
  have in3 := IN.out.c3
  go_upto_region 9 with (fail)
  have hzB := RR.out.lt
  have b0 : Below W1.heap.size W1 (W1.alloc (.cells #[.int .u32 (x : Nat)] 24)) := (Below.refl _ _).alloc (Nat.le_refl _) _
  have BG := Lib.hid (begins_any (W1.alloc (.cells #[.int .u32 (x : Nat)] 24)) (some ⟨W1.heap.size, 0, none⟩) 1 [x] (words_one W1 x hx) (some ⟨RB, 0, none⟩) 31 l (RR.out.words b0 LT.out))
  have HT2 := Lib.hid (HT.out.later (BW.out.trans (b0.mono BW.out.size)))
  have BW2 := Lib.hid (BW.out.alloc BW.out.size (.cells #[.int .u32 (x : Nat)] 24))
  have l31 : l.length = 31 := RR.out.len
  rw [l31] at BG
  clear BW HT RR LT b0 l31
  generalize begS l = s at *
  generalize begF [x] = Fb at *
  go_wp2_with fail
  refine BG.out.mono ?_
  rintro e w1 ⟨M, F, R, X, rfl, hD⟩
  have HD := Lib.hid hD
  clear hD BG
  generalize World.alloc _ _ = WW at *
  have CS := Lib.hid (HD.out.cstep HT2.out)
  have RS := Lib.hid (fun W0 (hD : Duo WW M F R X Fb (stepM 4096 2147483648 Fb s).s s 240 W0) W' (hb : Below W0.heap.size W0 W') => hD.rstep hb (by omega) hD.mem.fR)
  clear HD
  generalize stepM 4096 2147483648 Fb s = o2 at *
  obtain ⟨⟨p, wd, k, a, z⟩, t, s2⟩ := o2
  simp only [MEv.v] at CS RS
  go_wp2_with fail
  refine CS.out.mono ?_
  rintro e w2 ⟨rfl, hD2, _⟩
  have D2 := Lib.hid hD2
  clear CS hD2
  go_upto_region 13 with (fail)
  have b3 : Below w2.heap.size w2 (w2.alloc (.cells #[.int .u32 (p : Nat), .int .u32 (wd : Nat), .int .i64 k, .int .u32 (a : Nat), .int .i64 z] 34)) := (Below.refl _ _).alloc (Nat.le_refl _) _
  have E3 := Lib.hid (evAt_of (heap_alloc_new w2 (.cells #[.int .u32 (p : Nat), .int .u32 (wd : Nat), .int .i64 k, .int .u32 (a : Nat), .int .i64 z] 34)))
  have RS3 := Lib.hid (RS.out w2 D2.out _ b3)
  have hx2 := D2.out.xlt
  have sz3 : (w2.alloc (.cells #[.int .u32 (p : Nat), .int .u32 (wd : Nat), .int .i64 k, .int .u32 (a : Nat), .int .i64 z] 34)).heap.size = w2.heap.size + 1 := by simp
  clear b3 D2 RS
  generalize w2.heap.size = EB at *
  generalize World.alloc _ _ = W3 at *
  go_wp2_with fail
  refine RS3.out.mono ?_
  rintro e w4 ⟨rfl, hD4, ho4, hk4⟩
  have q4 := hk4 EB (Nat.le_refl _) (by omega)
  have E4 := Lib.hid (show EvAt EB p wd k a z w4 from ⟨(World.cell?_of_block q4).trans E3.out.c0, (World.cell?_of_block q4).trans E3.out.c1, (World.cell?_of_block q4).trans E3.out.c2, (World.cell?_of_block q4).trans E3.out.c3, (World.cell?_of_block q4).trans E3.out.c4, fun j hj => (World.frozen?_of_block (a := ⟨EB, j, none⟩) q4).trans (E3.out.f j hj), Nat.lt_of_lt_of_le E3.out.lt ho4.size⟩)
  have D4 := Lib.hid hD4
  clear RS3 E3 hD4 ho4 hk4 q4
  go_upto_region 14 with (fail)
  have b5 : Below w4.heap.size w4 (w4.alloc (.cells #[.int .u32 (p : Nat), .int .u32 (wd : Nat), .int .i64 k, .int .u32 (a : Nat), .int .i64 z] 34)) := (Below.refl _ _).alloc (Nat.le_refl _) _
  have F5 := Lib.hid (evAt_of (heap_alloc_new w4 (.cells #[.int .u32 (p : Nat), .int .u32 (wd : Nat), .int .i64 k, .int .u32 (a : Nat), .int .i64 z] 34)))
  have E5 := Lib.hid (E4.out.out (Out.of_below (fun _ => False) b5) id)
  have D5 := Lib.hid (D4.out.below b5)
  clear b5 D4 E4
  generalize w4.heap.size = FB at *
  generalize World.alloc _ _ = W5 at *
  have e0 := E5.out.c0
  have f0 := F5.out.c0
  have e1 := E5.out.c1
  have f1 := F5.out.c1
  have e2 := E5.out.c2
  have f2 := F5.out.c2
  have e3 := E5.out.c3
  have f3 := F5.out.c3
  have e4 := E5.out.c4
  have f4 := F5.out.c4
  have SM := Lib.hid (same_any D5.out.mach D5.out.rm)
  go_wp2_with fail
  refine SM.out.mono ?_
  rintro e w6 ⟨rfl, hl6⟩
  have D6 := Lib.hid (D5.out.like hl6)
  clear SM hl6 E5 F5 D5 e0 e1 e2 e3 e4 f0 f1 f2 f3 f4
  have BY := Lib.hid (bytes_any D6.out rfl)
  go_wp2_with fail
  refine BY.out.mono ?_
  rintro e w7 ⟨rfl, hb7⟩
  have B7 := Lib.hid (D6.out.bl.trans (hb7.mono D6.out.bl.size))
  clear BY hb7 D6
  go_wp2_with fail
  refine (lives06 w7 (HT2.out.later B7.out)).mono ?_
  rintro e w8 ⟨rfl, hb8⟩
  go_wp2_with fail
  go_ret
  exact ⟨rfl, BW2.out.trans ((B7.out.trans (hb8.mono B7.out.size)).mono BW2.out.size)⟩
set_option maxRecDepth 100000 in
set_option maxHeartbeats 8000000 in
theorem one_v (o : Int) (d : Nat)  (v : Nat) (hv1 : 1 ≤ v) (hv : v < 32) (im : Int) (ra rb : Nat) (ha : ra < 4294967296) (hb : rb < 4294967296) (x : Nat) (hx : x < 4294967296)
    (re : ∀ W', Calls Tryd.prog 6 #[.agg #[.int .i64 o, .int .i64 (d : Nat), .int .i64 ((0 : Nat) : Int), .int .i64 (v : Nat), .int .i32 im]] W' fun e w' => e = .returned (.tuple #[.int .u32 (x : Nat), .bool true]) ∧ Below W'.heap.size W' w') (w : World) (ht : T3 w) :
    Calls Tryd.prog 3 #[.agg #[.int .i64 o, .int .i64 (d : Nat), .int .i64 ((0 : Nat) : Int), .int .i64 (v : Nat), .int .i32 im], .int .u32 (ra : Nat), .int .u32 (rb : Nat)] w fun e w' => e = .returned (.bool true) ∧ Below w.heap.size w w' := by
  have hm1 := fun W => run_make_row' (P := Tryd.prog) 28 24 (.int .u32 0) 4 Tryd.underlying28 info_u32O rfl .i64 .i64 31 (by omega) (by omega) W
  push_cast at hm1
  have RE := Lib.hid re
  have HT := Lib.hid ht
  clear re ht
  go_enter Tryd.func3, Tryd.ntmps3
  go_wp2_with fail
  have I0 := Lib.hid (insAt_of (heap_alloc_new w (.cells #[.int .i64 o, .int .i64 (d : Nat), .int .i64 ((0 : Nat) : Int), .int .i64 (v : Nat), .int .i32 im] 23)))
  have B0 := Lib.hid (show Below w.heap.size w (w.alloc (.cells #[.int .i64 o, .int .i64 (d : Nat), .int .i64 ((0 : Nat) : Int), .int .i64 (v : Nat), .int .i32 im] 23)) from (Below.refl _ _).alloc (Nat.le_refl _) _)
  have szw : (w.alloc (.cells #[.int .i64 o, .int .i64 (d : Nat), .int .i64 ((0 : Nat) : Int), .int .i64 (v : Nat), .int .i32 im] 23)).heap.size = w.heap.size + 1 := by simp
  generalize World.alloc _ _ = W0 at *
  refine (RE.out W0).mono ?_
  rintro e w1 ⟨rfl, hb1⟩
  have I1 := Lib.hid (I0.out.out (Out.of_below (fun _ => False) hb1) id)
  have B1 := Lib.hid (B0.out.trans (hb1.mono B0.out.size))
  have sz1 : w.heap.size + 1 ≤ w1.heap.size := by have := hb1.size; omega
  clear I0 B0 hb1 RE szw
  go_upto_region 5 with (fail)
  have b2 : Below w1.heap.size w1 (w1.alloc (.cells (madeCells #[.int .u32 0] 31) 24)) := (Below.refl _ _).alloc (Nat.le_refl _) _
  have RR := Lib.hid (row_new w1)
  have IN := Lib.hid (I1.out.out (Out.of_below (fun _ => False) b2) id)
  have BW := Lib.hid (B1.out.trans (b2.mono B1.out.size))
  have LT := Lib.hid (show ∀ y ∈ noughts 31, y < 4294967296 from fun y hy => by have := noughts_lt 31 y hy; omega)
  have IR := Lib.hid (show w.heap.size ≠ w1.heap.size by omega)
  have RG := Lib.hid (show w.heap.size ≤ w1.heap.size by omega)
  clear b2 I1 B1 hm1 sz1
  generalize noughts 31 = l at *
  generalize w1.heap.size = RB at *
  generalize World.alloc _ _ = W1 at *
  have in2 := IN.out.c2
  have in3 := IN.out.c3
  obtain ⟨jv, hjv, hlv⟩ : ∃ j : Nat, (v : Int) - 1 = (j : Int) ∧ j < 31 := ⟨v - 1, by omega, by omega⟩
  have pv : (0 : Int) < (v : Int) := by omega
  have qv : (jv : Int) < 31 := by omega
  have cl := RR.out.c jv hlv
  have fl := RR.out.fz jv hlv
  have in2 := IN.out.c2
  have in3 := IN.out.c3
  have hIB : w.heap.size ≠ RB := IR.out
  go_upto_region 9 with (fail)
  have RR2 := Lib.hid (RR.out.set jv rb hlv)
  have LT2 := Lib.hid (show ∀ y ∈ l.set jv rb, y < 4294967296 from fun y hy => by
    rcases List.mem_or_eq_of_mem_set hy with g | g
    · exact LT.out y g
    · omega)
  have oS := out_cell RB jv (.int .u32 (rb : Nat)) W1
  have BWs := Lib.hid (show Below w.heap.size w (W1.setCell ⟨RB, jv, none⟩ (.int .u32 (rb : Nat))) from oS.below BW.out (Nat.le_refl _) (fun i e => by subst e; exact RG.out))
  have INs := Lib.hid (IN.out.out oS hIB)
  clear RR LT BW IN cl fl in2 in3 oS hIB
  generalize World.setCell _ _ _ = W2 at *
  obtain ⟨W1, rfl⟩ : ∃ W1 : World, W1 = W2 := ⟨_, rfl⟩
  generalize l.set jv rb = l at *
  have RR := Lib.hid RR2.out
  have LT := Lib.hid LT2.out
  have BW := Lib.hid BWs.out
  have IN := Lib.hid INs.out
  clear RR2 LT2 BWs INs
  have in2 := IN.out.c2
  have in3 := IN.out.c3
  go_upto_region 9 with (fail)
  have hzB := RR.out.lt
  have b0 : Below W1.heap.size W1 (W1.alloc (.cells #[.int .u32 (x : Nat)] 24)) := (Below.refl _ _).alloc (Nat.le_refl _) _
  have BG := Lib.hid (begins_any (W1.alloc (.cells #[.int .u32 (x : Nat)] 24)) (some ⟨W1.heap.size, 0, none⟩) 1 [x] (words_one W1 x hx) (some ⟨RB, 0, none⟩) 31 l (RR.out.words b0 LT.out))
  have HT2 := Lib.hid (HT.out.later (BW.out.trans (b0.mono BW.out.size)))
  have BW2 := Lib.hid (BW.out.alloc BW.out.size (.cells #[.int .u32 (x : Nat)] 24))
  have l31 : l.length = 31 := RR.out.len
  rw [l31] at BG
  clear BW HT RR LT b0 l31
  generalize begS l = s at *
  generalize begF [x] = Fb at *
  go_wp2_with fail
  refine BG.out.mono ?_
  rintro e w1 ⟨M, F, R, X, rfl, hD⟩
  have HD := Lib.hid hD
  clear hD BG
  generalize World.alloc _ _ = WW at *
  have CS := Lib.hid (HD.out.cstep HT2.out)
  have RS := Lib.hid (fun W0 (hD : Duo WW M F R X Fb (stepM 4096 2147483648 Fb s).s s 240 W0) W' (hb : Below W0.heap.size W0 W') => hD.rstep hb (by omega) hD.mem.fR)
  clear HD
  generalize stepM 4096 2147483648 Fb s = o2 at *
  obtain ⟨⟨p, wd, k, a, z⟩, t, s2⟩ := o2
  simp only [MEv.v] at CS RS
  go_wp2_with fail
  refine CS.out.mono ?_
  rintro e w2 ⟨rfl, hD2, _⟩
  have D2 := Lib.hid hD2
  clear CS hD2
  go_upto_region 13 with (fail)
  have b3 : Below w2.heap.size w2 (w2.alloc (.cells #[.int .u32 (p : Nat), .int .u32 (wd : Nat), .int .i64 k, .int .u32 (a : Nat), .int .i64 z] 34)) := (Below.refl _ _).alloc (Nat.le_refl _) _
  have E3 := Lib.hid (evAt_of (heap_alloc_new w2 (.cells #[.int .u32 (p : Nat), .int .u32 (wd : Nat), .int .i64 k, .int .u32 (a : Nat), .int .i64 z] 34)))
  have RS3 := Lib.hid (RS.out w2 D2.out _ b3)
  have hx2 := D2.out.xlt
  have sz3 : (w2.alloc (.cells #[.int .u32 (p : Nat), .int .u32 (wd : Nat), .int .i64 k, .int .u32 (a : Nat), .int .i64 z] 34)).heap.size = w2.heap.size + 1 := by simp
  clear b3 D2 RS
  generalize w2.heap.size = EB at *
  generalize World.alloc _ _ = W3 at *
  go_wp2_with fail
  refine RS3.out.mono ?_
  rintro e w4 ⟨rfl, hD4, ho4, hk4⟩
  have q4 := hk4 EB (Nat.le_refl _) (by omega)
  have E4 := Lib.hid (show EvAt EB p wd k a z w4 from ⟨(World.cell?_of_block q4).trans E3.out.c0, (World.cell?_of_block q4).trans E3.out.c1, (World.cell?_of_block q4).trans E3.out.c2, (World.cell?_of_block q4).trans E3.out.c3, (World.cell?_of_block q4).trans E3.out.c4, fun j hj => (World.frozen?_of_block (a := ⟨EB, j, none⟩) q4).trans (E3.out.f j hj), Nat.lt_of_lt_of_le E3.out.lt ho4.size⟩)
  have D4 := Lib.hid hD4
  clear RS3 E3 hD4 ho4 hk4 q4
  go_upto_region 14 with (fail)
  have b5 : Below w4.heap.size w4 (w4.alloc (.cells #[.int .u32 (p : Nat), .int .u32 (wd : Nat), .int .i64 k, .int .u32 (a : Nat), .int .i64 z] 34)) := (Below.refl _ _).alloc (Nat.le_refl _) _
  have F5 := Lib.hid (evAt_of (heap_alloc_new w4 (.cells #[.int .u32 (p : Nat), .int .u32 (wd : Nat), .int .i64 k, .int .u32 (a : Nat), .int .i64 z] 34)))
  have E5 := Lib.hid (E4.out.out (Out.of_below (fun _ => False) b5) id)
  have D5 := Lib.hid (D4.out.below b5)
  clear b5 D4 E4
  generalize w4.heap.size = FB at *
  generalize World.alloc _ _ = W5 at *
  have e0 := E5.out.c0
  have f0 := F5.out.c0
  have e1 := E5.out.c1
  have f1 := F5.out.c1
  have e2 := E5.out.c2
  have f2 := F5.out.c2
  have e3 := E5.out.c3
  have f3 := F5.out.c3
  have e4 := E5.out.c4
  have f4 := F5.out.c4
  have SM := Lib.hid (same_any D5.out.mach D5.out.rm)
  go_wp2_with fail
  refine SM.out.mono ?_
  rintro e w6 ⟨rfl, hl6⟩
  have D6 := Lib.hid (D5.out.like hl6)
  clear SM hl6 E5 F5 D5 e0 e1 e2 e3 e4 f0 f1 f2 f3 f4
  have BY := Lib.hid (bytes_any D6.out rfl)
  go_wp2_with fail
  refine BY.out.mono ?_
  rintro e w7 ⟨rfl, hb7⟩
  have B7 := Lib.hid (D6.out.bl.trans (hb7.mono D6.out.bl.size))
  clear BY hb7 D6
  go_wp2_with fail
  refine (lives06 w7 (HT2.out.later B7.out)).mono ?_
  rintro e w8 ⟨rfl, hb8⟩
  go_wp2_with fail
  go_ret
  exact ⟨rfl, BW2.out.trans ((B7.out.trans (hb8.mono B7.out.size)).mono BW2.out.size)⟩
set_option maxRecDepth 100000 in
set_option maxHeartbeats 8000000 in
theorem one_0 (o : Int) (d : Nat)   (im : Int) (ra rb : Nat) (ha : ra < 4294967296) (hb : rb < 4294967296) (x : Nat) (hx : x < 4294967296)
    (re : ∀ W', Calls Tryd.prog 6 #[.agg #[.int .i64 o, .int .i64 (d : Nat), .int .i64 ((0 : Nat) : Int), .int .i64 ((0 : Nat) : Int), .int .i32 im]] W' fun e w' => e = .returned (.tuple #[.int .u32 (x : Nat), .bool true]) ∧ Below W'.heap.size W' w') (w : World) (ht : T3 w) :
    Calls Tryd.prog 3 #[.agg #[.int .i64 o, .int .i64 (d : Nat), .int .i64 ((0 : Nat) : Int), .int .i64 ((0 : Nat) : Int), .int .i32 im], .int .u32 (ra : Nat), .int .u32 (rb : Nat)] w fun e w' => e = .returned (.bool true) ∧ Below w.heap.size w w' := by
  have hm1 := fun W => run_make_row' (P := Tryd.prog) 28 24 (.int .u32 0) 4 Tryd.underlying28 info_u32O rfl .i64 .i64 31 (by omega) (by omega) W
  push_cast at hm1
  have RE := Lib.hid re
  have HT := Lib.hid ht
  clear re ht
  go_enter Tryd.func3, Tryd.ntmps3
  go_wp2_with fail
  have I0 := Lib.hid (insAt_of (heap_alloc_new w (.cells #[.int .i64 o, .int .i64 (d : Nat), .int .i64 ((0 : Nat) : Int), .int .i64 ((0 : Nat) : Int), .int .i32 im] 23)))
  have B0 := Lib.hid (show Below w.heap.size w (w.alloc (.cells #[.int .i64 o, .int .i64 (d : Nat), .int .i64 ((0 : Nat) : Int), .int .i64 ((0 : Nat) : Int), .int .i32 im] 23)) from (Below.refl _ _).alloc (Nat.le_refl _) _)
  have szw : (w.alloc (.cells #[.int .i64 o, .int .i64 (d : Nat), .int .i64 ((0 : Nat) : Int), .int .i64 ((0 : Nat) : Int), .int .i32 im] 23)).heap.size = w.heap.size + 1 := by simp
  generalize World.alloc _ _ = W0 at *
  refine (RE.out W0).mono ?_
  rintro e w1 ⟨rfl, hb1⟩
  have I1 := Lib.hid (I0.out.out (Out.of_below (fun _ => False) hb1) id)
  have B1 := Lib.hid (B0.out.trans (hb1.mono B0.out.size))
  have sz1 : w.heap.size + 1 ≤ w1.heap.size := by have := hb1.size; omega
  clear I0 B0 hb1 RE szw
  go_upto_region 5 with (fail)
  have b2 : Below w1.heap.size w1 (w1.alloc (.cells (madeCells #[.int .u32 0] 31) 24)) := (Below.refl _ _).alloc (Nat.le_refl _) _
  have RR := Lib.hid (row_new w1)
  have IN := Lib.hid (I1.out.out (Out.of_below (fun _ => False) b2) id)
  have BW := Lib.hid (B1.out.trans (b2.mono B1.out.size))
  have LT := Lib.hid (show ∀ y ∈ noughts 31, y < 4294967296 from fun y hy => by have := noughts_lt 31 y hy; omega)
  have IR := Lib.hid (show w.heap.size ≠ w1.heap.size by omega)
  have RG := Lib.hid (show w.heap.size ≤ w1.heap.size by omega)
  clear b2 I1 B1 hm1 sz1
  generalize noughts 31 = l at *
  generalize w1.heap.size = RB at *
  generalize World.alloc _ _ = W1 at *
  have in2 := IN.out.c2
  have in3 := IN.out.c3
  go_upto_region 9 with (fail)
  have hzB := RR.out.lt
  have b0 : Below W1.heap.size W1 (W1.alloc (.cells #[.int .u32 (x : Nat)] 24)) := (Below.refl _ _).alloc (Nat.le_refl _) _
  have BG := Lib.hid (begins_any (W1.alloc (.cells #[.int .u32 (x : Nat)] 24)) (some ⟨W1.heap.size, 0, none⟩) 1 [x] (words_one W1 x hx) (some ⟨RB, 0, none⟩) 31 l (RR.out.words b0 LT.out))
  have HT2 := Lib.hid (HT.out.later (BW.out.trans (b0.mono BW.out.size)))
  have BW2 := Lib.hid (BW.out.alloc BW.out.size (.cells #[.int .u32 (x : Nat)] 24))
  have l31 : l.length = 31 := RR.out.len
  rw [l31] at BG
  clear BW HT RR LT b0 l31
  generalize begS l = s at *
  generalize begF [x] = Fb at *
  go_wp2_with fail
  refine BG.out.mono ?_
  rintro e w1 ⟨M, F, R, X, rfl, hD⟩
  have HD := Lib.hid hD
  clear hD BG
  generalize World.alloc _ _ = WW at *
  have CS := Lib.hid (HD.out.cstep HT2.out)
  have RS := Lib.hid (fun W0 (hD : Duo WW M F R X Fb (stepM 4096 2147483648 Fb s).s s 240 W0) W' (hb : Below W0.heap.size W0 W') => hD.rstep hb (by omega) hD.mem.fR)
  clear HD
  generalize stepM 4096 2147483648 Fb s = o2 at *
  obtain ⟨⟨p, wd, k, a, z⟩, t, s2⟩ := o2
  simp only [MEv.v] at CS RS
  go_wp2_with fail
  refine CS.out.mono ?_
  rintro e w2 ⟨rfl, hD2, _⟩
  have D2 := Lib.hid hD2
  clear CS hD2
  go_upto_region 13 with (fail)
  have b3 : Below w2.heap.size w2 (w2.alloc (.cells #[.int .u32 (p : Nat), .int .u32 (wd : Nat), .int .i64 k, .int .u32 (a : Nat), .int .i64 z] 34)) := (Below.refl _ _).alloc (Nat.le_refl _) _
  have E3 := Lib.hid (evAt_of (heap_alloc_new w2 (.cells #[.int .u32 (p : Nat), .int .u32 (wd : Nat), .int .i64 k, .int .u32 (a : Nat), .int .i64 z] 34)))
  have RS3 := Lib.hid (RS.out w2 D2.out _ b3)
  have hx2 := D2.out.xlt
  have sz3 : (w2.alloc (.cells #[.int .u32 (p : Nat), .int .u32 (wd : Nat), .int .i64 k, .int .u32 (a : Nat), .int .i64 z] 34)).heap.size = w2.heap.size + 1 := by simp
  clear b3 D2 RS
  generalize w2.heap.size = EB at *
  generalize World.alloc _ _ = W3 at *
  go_wp2_with fail
  refine RS3.out.mono ?_
  rintro e w4 ⟨rfl, hD4, ho4, hk4⟩
  have q4 := hk4 EB (Nat.le_refl _) (by omega)
  have E4 := Lib.hid (show EvAt EB p wd k a z w4 from ⟨(World.cell?_of_block q4).trans E3.out.c0, (World.cell?_of_block q4).trans E3.out.c1, (World.cell?_of_block q4).trans E3.out.c2, (World.cell?_of_block q4).trans E3.out.c3, (World.cell?_of_block q4).trans E3.out.c4, fun j hj => (World.frozen?_of_block (a := ⟨EB, j, none⟩) q4).trans (E3.out.f j hj), Nat.lt_of_lt_of_le E3.out.lt ho4.size⟩)
  have D4 := Lib.hid hD4
  clear RS3 E3 hD4 ho4 hk4 q4
  go_upto_region 14 with (fail)
  have b5 : Below w4.heap.size w4 (w4.alloc (.cells #[.int .u32 (p : Nat), .int .u32 (wd : Nat), .int .i64 k, .int .u32 (a : Nat), .int .i64 z] 34)) := (Below.refl _ _).alloc (Nat.le_refl _) _
  have F5 := Lib.hid (evAt_of (heap_alloc_new w4 (.cells #[.int .u32 (p : Nat), .int .u32 (wd : Nat), .int .i64 k, .int .u32 (a : Nat), .int .i64 z] 34)))
  have E5 := Lib.hid (E4.out.out (Out.of_below (fun _ => False) b5) id)
  have D5 := Lib.hid (D4.out.below b5)
  clear b5 D4 E4
  generalize w4.heap.size = FB at *
  generalize World.alloc _ _ = W5 at *
  have e0 := E5.out.c0
  have f0 := F5.out.c0
  have e1 := E5.out.c1
  have f1 := F5.out.c1
  have e2 := E5.out.c2
  have f2 := F5.out.c2
  have e3 := E5.out.c3
  have f3 := F5.out.c3
  have e4 := E5.out.c4
  have f4 := F5.out.c4
  have SM := Lib.hid (same_any D5.out.mach D5.out.rm)
  go_wp2_with fail
  refine SM.out.mono ?_
  rintro e w6 ⟨rfl, hl6⟩
  have D6 := Lib.hid (D5.out.like hl6)
  clear SM hl6 E5 F5 D5 e0 e1 e2 e3 e4 f0 f1 f2 f3 f4
  have BY := Lib.hid (bytes_any D6.out rfl)
  go_wp2_with fail
  refine BY.out.mono ?_
  rintro e w7 ⟨rfl, hb7⟩
  have B7 := Lib.hid (D6.out.bl.trans (hb7.mono D6.out.bl.size))
  clear BY hb7 D6
  go_wp2_with fail
  refine (lives06 w7 (HT2.out.later B7.out)).mono ?_
  rintro e w8 ⟨rfl, hb8⟩
  go_wp2_with fail
  go_ret
  exact ⟨rfl, BW2.out.trans ((B7.out.trans (hb8.mono B7.out.size)).mono BW2.out.size)⟩
theorem walk_CpuOne (a0_0 a0_1 a0_2 a0_3 a0_4 a1 a2 : Int) (w0_0 : (Lit.int .i64 a0_0).wf = true) (w0_1 : (Lit.int .i64 a0_1).wf = true) (w0_2 : (Lit.int .i64 a0_2).wf = true) (w0_3 : (Lit.int .i64 a0_3).wf = true) (w0_4 : (Lit.int .i32 a0_4).wf = true) (w1 : (Lit.int .u32 a1).wf = true) (w2 : (Lit.int .u32 a2).wf = true) (w : World) (ht : T3 w) :
    Calls Tryd.prog 3 #[.agg #[.int .i64 a0_0, .int .i64 a0_1, .int .i64 a0_2, .int .i64 a0_3, .int .i32 a0_4], .int .u32 a1, .int .u32 a2] w fun e w' => e = .returned (.bool true) ∧ Below w.heap.size w w' := by
  have b4 : -2147483648 ≤ a0_4 ∧ a0_4 ≤ 2147483647 := by simpa [Lit.wf, IntKind.min, IntKind.max, IntKind.signed, IntKind.bits] using w0_4
  have b1 : 0 ≤ a1 ∧ a1 ≤ 4294967295 := by simpa [Lit.wf, IntKind.min, IntKind.max, IntKind.signed, IntKind.bits] using w1
  have b2 : 0 ≤ a2 ∧ a2 ≤ 4294967295 := by simpa [Lit.wf, IntKind.min, IntKind.max, IntKind.signed, IntKind.bits] using w2
  clear w0_0 w0_1 w0_2 w0_3 w0_4 w1 w2
  by_cases hc : canI ⟨a0_0, a0_1, a0_2, a0_3, a0_4⟩ = true
  · have C := canI_out hc
    have hd := C.hd
    have hu := C.ha
    have hv := C.hb
    have hx := (rec_word C).1
    have he : encI ⟨a0_0, a0_1, a0_2, a0_3, a0_4⟩ = wordI ⟨a0_0, a0_1, a0_2, a0_3, a0_4⟩ := by unfold encI; rw [if_pos hc]
    have re : ∀ W', Calls Tryd.prog 6 #[.agg #[.int .i64 a0_0, .int .i64 a0_1, .int .i64 a0_2, .int .i64 a0_3, .int .i32 a0_4]] W' fun e w' => e = .returned (.tuple #[.int .u32 (wordI ⟨a0_0, a0_1, a0_2, a0_3, a0_4⟩), .bool true]) ∧ Below W'.heap.size W' w' := fun W' => (renc_any a0_0 a0_1 a0_2 a0_3 a0_4 W' b4.1 b4.2).mono fun e w' g => ⟨g.1.trans (by rw [he, hc]), g.2⟩
    generalize wordI ⟨a0_0, a0_1, a0_2, a0_3, a0_4⟩ = x at *
    simp only at hd hu hv
    clear C he hc
    obtain ⟨d, rfl⟩ : ∃ n : Nat, a0_1 = n := ⟨a0_1.toNat, by omega⟩
    obtain ⟨u, rfl⟩ : ∃ n : Nat, a0_2 = n := ⟨a0_2.toNat, by omega⟩
    obtain ⟨v, rfl⟩ : ∃ n : Nat, a0_3 = n := ⟨a0_3.toNat, by omega⟩
    obtain ⟨a, rfl⟩ : ∃ n : Nat, a1 = n := ⟨a1.toNat, by omega⟩
    obtain ⟨b, rfl⟩ : ∃ n : Nat, a2 = n := ⟨a2.toNat, by omega⟩
    obtain ⟨x, rfl⟩ : ∃ n : Nat, x = n := ⟨x.toNat, by omega⟩
    rcases Nat.eq_zero_or_pos u with eu | eu
    · subst eu
      rcases Nat.eq_zero_or_pos v with ev | ev
      · subst ev
        exact one_0 a0_0 d a0_4 a b (by omega) (by omega) x (by omega) re w ht
      · exact one_v a0_0 d v ev (by omega) a0_4 a b (by omega) (by omega) x (by omega) re w ht
    · rcases Nat.eq_zero_or_pos v with ev | ev
      · subst ev
        exact one_u a0_0 d u eu (by omega) a0_4 a b (by omega) (by omega) x (by omega) re w ht
      · exact one_uv a0_0 d u eu (by omega) v ev (by omega) a0_4 a b (by omega) (by omega) x (by omega) re w ht
  · exact one_no _ _ _ _ _ _ _ b4.1 b4.2 (Bool.eq_false_iff.2 hc) w ht

set_option maxRecDepth 100000 in
theorem lifted_CpuOne (os : Os) (started : os.Started) (H : Type) (enc : TypeId × Value → H) :
    ReturnsInHanded {} Tryd.checked os 3 .any (fun w args => (Rows.cpuOneSpec.pre enc Tryd.prog Tryd.f3 [] false w args ∧ laidMetH Tryd.prog laid3 w) ∧ sizedMet enc Tryd.prog Tryd.f3 (OpenSpec.ofChange Rows.cpuOneSpec) false w args)
      (Rows.cpuOneSpec.post enc Tryd.prog Tryd.f3 false true false false) := by
  refine returnsInHanded_of_change_and (C := Tryd.checked) (X := fun w _ => laidMetH Tryd.prog laid3 w) (fun _ _ _ hh h => h.of_heap hh) own started (by kernel_rfl) Tryd.func3
    (ChangeSpec.witness_shaped (enc := enc) (C := Tryd.checked) (os := os) (X := fun w _ => laidMetH Tryd.prog laid3 w) false (World.doorLaid Tryd.prog 400 os) #[.agg #[.int .i64 0, .int .i64 0, .int .i64 0, .int .i64 0, .int .i32 0], .int .u32 0, .int .u32 0] 8 rfl (World.shaped_of_RefB (by kernel_rfl) (by kernel_rfl)) (by kernel_rfl) (by kernel_rfl) (by kernel_rfl) (door_met os _)) ?_
  intro W base args ds gs before hval0 hW _ _ hL _
  have hval : ∀ (j : Nat) t v, Tryd.f3.params[j]? = some t → args[j]? = some v → Value.okWide Tryd.prog W .any base t v := hval0
  have hW' := hW
  obtain ⟨p, q, hA0, hV, rfl, hfz, hnd⟩ := hW
  have hA : DataW.TrodAll enc Tryd.prog W 0 (fun _ => true) true Tryd.f3.params.toList args.toList ds p := hA0
  rw [Tryd.params3] at hA hval
  obtain ⟨v0, vs0, d0, ds0, p0, q0, hargs, rfl, rfl, h0, r0⟩ := trodAll_cons hA
  obtain ⟨v1, vs1, d1, ds1, p1, q1, rfl, rfl, rfl, h1, r1⟩ := trodAll_cons r0
  obtain ⟨v2, vs2, d2, ds2, p2, q2, rfl, rfl, rfl, h2, r2⟩ := trodAll_cons r1
  obtain ⟨rfl, rfl, rfl⟩ := trodAll_nil r2
  obtain rfl : args = #[v0, v1, v2] := by cases args; simp_all
  obtain ⟨rfl, rfl⟩ := trodVars_none hV
  have k0 := h0
  have lt0 : ∀ x ∈ p0, x.block < W.heap.size := by obtain ⟨m, hm⟩ := k0; exact DataW.trod_lt m _ _ _ hm
  obtain ⟨zs0, zl0, rfl, zw0⟩ := flat_ints [.i64, .i64, .i64, .i64, .i32] (ts := [3, 3, 3, 3, 21]) (Or.inl ⟨_, Tryd.underlying23⟩) (by kernel_rfl) (by kernel_rfl) (by kernel_rfl) (hval 0 23 v0 rfl rfl)
  obtain ⟨a0_0, a0_1, a0_2, a0_3, a0_4, rfl⟩ := len5 zl0
  obtain ⟨a1, rfl, rfl, rfl, w1⟩ := open_int Tryd.underlying24 (hval 1 24 v1 rfl rfl) h1
  obtain ⟨a2, rfl, rfl, rfl, w2⟩ := open_int Tryd.underlying24 (hval 2 24 v2 rfl rfl) h2
  clear hA0 hval0
  refine (walk_CpuOne a0_0 a0_1 a0_2 a0_3 a0_4 a1 a2 (zw0 0 .i64 _ rfl rfl) (zw0 1 .i64 _ rfl rfl) (zw0 2 .i64 _ rfl rfl) (zw0 3 .i64 _ rfl rfl) (zw0 4 .i32 _ rfl rfl) w1 w2 W (t3_of hL)).mono fun e W' ⟨he, bel⟩ => ?_
  subst he
  exact ⟨_, rfl, _, _, _, [], _, [], hW', trodAll_mk1 (shut_bool Tryd.underlying4 _), (trodAll_cons_mk (Below.trod laidOut (by kernel_rfl) (of_decide_eq_true (by kernel_rfl)) k0 bel lt0) (trodAll_cons_mk (shut_int Tryd.underlying24 w1) (trodAll_cons_mk (shut_int Tryd.underlying24 w2) trodAll_mk0))), rfl, bel.frame _, fun h => by cases h⟩

theorem row_CpuOne : Rows.CpuOneSaid :=
  OpenClaim.holds_of_wide 3 Tryd.f3 rfl rfl rfl rfl rfl rfl rfl ⟨rfl, rfl, rfl, rfl, rfl⟩ rfl rfl rfl rfl rfl (by kernel_rfl) Tryd.func3 (by kernel_rfl)
    (of_decide_eq_true (by kernel_rfl)) (by unfold Func.isWrapper; first | (rw [if_pos (by decide +kernel)]; kernel_rfl) | (rw [if_neg (by decide +kernel)]; exact ⟨rfl, rfl⟩))
    (fun os started H enc _ => lifted_CpuOne os started H enc)
theorem holds_CpuOne : Rows.CpuOneCardSaid :=
  Claim7.holds_tied_plain_at .later [] [.data] true _ false
    row_CpuOne (fun _ h => by cases h) (by kernel_rfl) (fun _ h => by cases h) cpuOne_row_tie rfl ⟨rfl, rfl⟩ (by kernel_rfl) rfl
    (fun f fn hf hfn => by
      obtain rfl : f = 3 := Option.some.inj ((show Tryd.prog.funcNamed "pintle/pintlelaw06.CpuOne" = some 3 by kernel_rfl).symm.trans hf) |>.symm
      obtain rfl : fn = Tryd.f3 := (Option.some.inj (Tryd.func3.symm.trans hfn)).symm
      exact ⟨by kernel_rfl, fun j t ht => by
        rw [Tryd.params3] at ht
        have hm : t ∈ [23, 24, 24] := by simpa using Array.mem_of_getElem? ht
        have hall : ([23, 24, 24].all fun u => !Tryd.prog.wantsStandIn u) = true := by kernel_rfl
        exact (show Tryd.prog.wantsStandIn t = false by simpa using List.all_eq_true.1 hall t hm)⟩)
    (by kernel_rfl)

end Go.Proofs.YtnkfdpkcnfefeaaDoor
