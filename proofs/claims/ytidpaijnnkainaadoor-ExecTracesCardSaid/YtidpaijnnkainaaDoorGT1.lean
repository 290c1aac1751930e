/- The document's machine: operations with a number. -/
import Derived.Test.YtidpaijnnkainaaDoorGS4
namespace Go.Proofs.YtidpaijnnkainaaDoor
open Go Go.RowKit Pl
set_option linter.unusedVariables false

theorem row9 (o : Int) (j : Nat) (hj : o - 19 = (j : Int)) (hj9 : j < 9) : (#[.int .i64 1, .int .i64 4, .int .i64 5, .int .i64 6, .int .i64 9, .int .i64 10, .int .i64 3, .int .i64 7, .int .i64 8] : Array Value)[j]? = some (.int .i64 (ofC o)) := by
  obtain rfl : o = 19 + (j : Int) := by omega
  obtain rfl | rfl | rfl | rfl | rfl | rfl | rfl | rfl | rfl : j = 0 ∨ j = 1 ∨ j = 2 ∨ j = 3 ∨ j = 4 ∨ j = 5 ∨ j = 6 ∨ j = 7 ∨ j = 8 := by omega
  all_goals simp [ofC]
abbrev SevR (b : Nat) (o : Int) (d : Nat) (j : Nat) (x : Int) (w' : World) : Prop := w'.cell? ⟨b + 3, j, none⟩ = some (.int .i64 x) ∧ SevC b o d w'
theorem SevR.like {b : Nat} {o : Int} {d j : Nat} {x : Int} {w w' : World} (h : SevR b o d j x w) (l : LikeG w w') : SevR b o d j x w' := ⟨(l.cell _).trans h.1, h.2.like l⟩
theorem SevR.out {b k : Nat} {o : Int} {d j : Nat} {x : Int} {w w' : World} (h : SevR b o d j x w) (l : Out (· = k) w w') (h1 : b ≠ k) (h2 : b + 2 ≠ k) (h3 : b + 3 ≠ k) : SevR b o d j x w' :=
  ⟨(l.cell (p := ⟨b + 3, j, none⟩) (World.block_lt_of_cell? w _ h.1) h3).trans h.1, h.2.out l h1 h2⟩
theorem SevR.set {b i : Nat} {o : Int} {d j : Nat} {x : Int} {v : Value} {w : World} (h : SevR b o d j x w) : SevR b o d j x (w.setCell ⟨b + 1, i, none⟩ v) := h.out (out_cell _ _ _ _) (by omega) (by omega) (by omega)
set_option maxRecDepth 100000 in
set_option maxHeartbeats 4000000 in
theorem rdo_num {Y X pc : Nat} {r : Nat → Nat} {W : World} (h : MachIs Y X pc r W) (o : Int) (d u v : Nat) (im : Int) (hd : d < 32) (hu : u < 32) (hv : v < 32) (nx : Nat) (hnx : nx = (pc + 4) % 4294967296) (ho : 19 ≤ o ∧ o ≤ 27) :
    Calls Tryd.prog 45 #[.pointer (some ⟨Y, 0, none⟩), .agg #[.int .i64 o, .int .i64 (d : Nat), .int .i64 (u : Nat), .int .i64 (v : Nat), .int .i32 im]] W fun e w' => e = .returned (.tuple #[.agg #[.int .u32 ((0 : Nat) : Int), .int .u32 ((0 : Nat) : Int), .int .i64 0, .int .u32 ((0 : Nat) : Int), .int .i64 0], .int .i64 0]) ∧ MachIs Y X nx (setR r d (aluS (ofC o) (r u : Nat) (nC im : Nat)).toNat) w' ∧ Out (· = Y) W w' := by
  have oc : 1 ≤ ofC o ∧ ofC o ≤ 18 := by unfold ofC; split; omega; split; omega; split; omega; split; omega; split; omega; split; omega; split; omega; split <;> omega
  have AB := aluS_bd (op := ofC o) (a := (r u : Nat)) (b := (nC im : Nat)) (by omega) (by have := h.rb u; omega) (by omega) (by have := nC_lt im; omega)
  have AL := Lib.hid (fun W' => rcalu_any (ofC o) (r u : Nat) (nC im : Nat) W' (by omega) (by omega) (by omega) (by have := h.rb u; omega) (by omega) (by have := nC_lt im; omega))
  have HY := Lib.hid (show aluS (ofC o) (r u : Nat) (nC im : Nat) = (((aluS (ofC o) (r u : Nat) (nC im : Nat)).toNat : Nat) : Int) by omega)
  have ylt : (aluS (ofC o) (r u : Nat) (nC im : Nat)).toNat < 4294967296 := by omega
  clear AB
  generalize hyy : (aluS (ofC o) (r u : Nat) (nC im : Nat)).toNat = y at *
  clear hyy
  obtain ⟨j, hj, hj9⟩ : ∃ j : Nat, o - 19 = (j : Int) ∧ j < 9 := ⟨(o - 19).toNat, by omega, by omega⟩
  have ROW := Lib.hid (row9 o j hj hj9)
  have hj0 : (j : Int) < 9 := by omega
  have hj1 : (0 : Int) ≤ (j : Int) := by omega
  have HJW : IntKind.i64.wrap (o - 19) = (j : Int) := by rw [hj]; exact IntWalk.i64_in _ (by omega)
  clear oc hj
  have q18 : decide (o ≤ 18) = false := by simp; omega
  have q27 : decide (o ≤ 27) = true := by simp; omega
  clear ho
  have H := Lib.hid h
  have hY := h.lt
  have hpc := h.pcb
  have bu := h.rb u
  have bv := h.rb v
  have hu0 : (u : Int) < 32 := by omega
  have hv0 : (v : Int) < 32 := by omega
  have hd0 : (d : Int) < 32 := by omega
  have bu0 : ((r u : Nat) : Int) < 4294967296 := by omega
  have bv0 : ((r v : Nat) : Int) < 4294967296 := by omega
  have HN := Lib.hid (nC_wrap im)
  have hnb := nC_lt im
  have HW := Lib.hid (show IntKind.u32.wrap ((pc : Int) + 4) = (nx : Int) by rw [IntKind.wrap_u32]; omega)
  have nlt : nx < 4294967296 := by omega
  clear hnx
  clear h
  go_enter Tryd.func45, Tryd.ntmps45
  go_upto_region 2 with (fail)
  obtain ⟨g1, g2, g4, g3⟩ := three_alloc W (.cells #[.int .i64 o, .int .i64 (d : Nat), .int .i64 (u : Nat), .int .i64 (v : Nat), .int .i32 im] 85) (.cells #[.int .u32 0, .int .u32 0, .int .i64 0, .int .u32 0, .int .i64 0] 76) (.cells #[.int .u32 0, .int .u32 0, .int .i64 0, .int .u32 0, .int .i64 0] 76)
  have I1 := Lib.hid (insAt_of g1)
  have Z1 := Lib.hid (evAt_of (p := 0) (w := 0) (a := 0) g2)
  have N1 := Lib.hid (evAt_of (p := 0) (w := 0) (a := 0) g4)
  have B1 := Lib.hid g3
  have sz1 : (((W.alloc (.cells #[.int .i64 o, .int .i64 (d : Nat), .int .i64 (u : Nat), .int .i64 (v : Nat), .int .i32 im] 85)).alloc (.cells #[.int .u32 0, .int .u32 0, .int .i64 0, .int .u32 0, .int .i64 0] 76)).alloc (.cells #[.int .u32 0, .int .u32 0, .int .i64 0, .int .u32 0, .int .i64 0] 76)).heap.size = W.heap.size + 3 := by simp
  clear g1 g2 g3 g4
  generalize World.alloc _ _ = W1 at *
  have i2 := I1.out.c2
  have i3 := I1.out.c3
  have i4 := I1.out.c4
  have c1 := (H.out.below B1.out).c1
  have cu := (H.out.below B1.out).c u hu
  have cv := (H.out.below B1.out).c v hv
  have L1 := LikeG.refl W1
  go_region_held3 (fun w' => w'.cell? ⟨W.heap.size, 2, none⟩ = some (.int .i64 (u : Nat)) ∧ w'.cell? ⟨W.heap.size, 3, none⟩ = some (.int .i64 (v : Nat)) ∧ w'.cell? ⟨W.heap.size, 4, none⟩ = some (.int .i32 im) ∧ w'.cell? ⟨Y, 1, none⟩ = some (.int .u32 (pc : Nat)) ∧ w'.cell? ⟨Y, 2 + u, none⟩ = some (.int .u32 (r u : Nat)) ∧ w'.cell? ⟨Y, 2 + v, none⟩ = some (.int .u32 (r v : Nat)))
    (first | (with_reducible assumption) | (exact ⟨i2, i3, i4, c1, cu, cv⟩))
    (fail)
  clear ‹_ ∧ _ ∧ _ ∧ _ ∧ _ ∧ _›
  rw [HN.out, HW.out]
  have lk : LikeG W1 W1.drew := like_drew L1
  have I2 := Lib.hid (I1.out.out (lk.out (fun _ => False)) id)
  have Z2 := Lib.hid (Z1.out.out (lk.out (fun _ => False)) id)
  have N2 := Lib.hid (N1.out.out (lk.out (fun _ => False)) id)
  have B2 := Lib.hid (lk.2 _ _ B1.out)
  have sz2 : W1.drew.heap.size = W.heap.size + 3 := sz1
  clear lk I1 Z1 N1 B1 i2 i3 i4 c1 cu cv L1 sz1
  generalize World.drew W1 = W2 at *
  have i0 := I2.out.c0
  have i1 := I2.out.c1
  have n0 := N2.out.c0
  have n1 := N2.out.c1
  have n2 := N2.out.c2
  have n3 := N2.out.c3
  have n4 := N2.out.c4
  go_upto_region 7 with (fail)
  have rowc := (cell_of_row _ W2.heap.size j _ _ _ (heap_alloc_new W2 (.cells #[.int .i64 1, .int .i64 4, .int .i64 5, .int .i64 6, .int .i64 9, .int .i64 10, .int .i64 3, .int .i64 7, .int .i64 8] 3))).trans ROW.out
  have bl : Below W2.heap.size W2 (W2.alloc (.cells #[.int .i64 1, .int .i64 4, .int .i64 5, .int .i64 6, .int .i64 9, .int .i64 10, .int .i64 3, .int .i64 7, .int .i64 8] 3)) := (Below.refl _ _).alloc (Nat.le_refl _) _
  have I3 := Lib.hid (I2.out.out (Out.of_below (fun _ => False) bl) id)
  have Z3 := Lib.hid (Z2.out.out (Out.of_below (fun _ => False) bl) id)
  have N3 := Lib.hid (N2.out.out (Out.of_below (fun _ => False) bl) id)
  have B3 := Lib.hid (bl.mono B2.out.size |> fun k => B2.out.trans k)
  rw [sz2] at rowc
  clear bl I2 Z2 N2 B2 i0 i1 n0 n1 n2 n3 n4 ROW
  generalize hW3 : World.alloc _ _ = W3 at *
  have i0 := I3.out.c0
  have i1 := I3.out.c1
  have n0 := N3.out.c0
  have n1 := N3.out.c1
  have n2 := N3.out.c2
  have n3 := N3.out.c3
  have n4 := N3.out.c4
  clear hW3
  have SETC := Lib.hid (fun W' (hm : MachIs Y X pc r W') => rcset_any hm d y hd ylt nx nlt)
  have hS : SevR W.heap.size o d j (ofC o) W3.drew := ⟨rowc, n0, n1, n2, n3, n4, i0, i1⟩
  have HD := Lib.hid (show MachIs Y X pc r W3.drew from (H.out.below B3.out).like (like_drew (LikeG.refl W3)))
  go_region_held3 (fun w' => w'.cell? ⟨W.heap.size + 3, j, none⟩ = some (.int .i64 (ofC o)) ∧ w'.cell? ⟨W.heap.size + 2, 0, none⟩ = some (.int .u32 ((0 : Nat) : Int)) ∧ w'.cell? ⟨W.heap.size + 2, 1, none⟩ = some (.int .u32 ((0 : Nat) : Int)) ∧ w'.cell? ⟨W.heap.size + 2, 2, none⟩ = some (.int .i64 0) ∧ w'.cell? ⟨W.heap.size + 2, 3, none⟩ = some (.int .u32 ((0 : Nat) : Int)) ∧ w'.cell? ⟨W.heap.size + 2, 4, none⟩ = some (.int .i64 0) ∧ w'.cell? ⟨W.heap.size, 0, none⟩ = some (.int .i64 o) ∧ w'.cell? ⟨W.heap.size, 1, none⟩ = some (.int .i64 (d : Nat)))
    (first | (with_reducible assumption) | (with_reducible exact hS) | (with_reducible exact hS8) | (with_reducible exact hS9.out) | (with_reducible exact SevR.set (SevR.set (SevR.set (SevR.set (SevR.set hS9.out))))))
    (first
    | (go_at_call 65; (with_reducible refine (AL.out _).mono ?_); rintro e w8 ⟨rfl, hlk⟩; rw [HY.out]; have hS8 : SevR W.heap.size o d j (ofC o) w8 := hS.like hlk)
    | (go_at_call 64; (with_reducible refine (SETC.out _ (HD.out.like hlk)).mono ?_); rintro e w9 ⟨rfl, hm9, ho9⟩; have hS9 := Lib.hid (show SevR W.heap.size o d j (ofC o) w9 from hS8.out ho9 (by omega) (by omega) (by omega)); have OW := Lib.hid (show Out (· = Y) W3 w9 from ((like_drew (LikeG.refl W3)).out _).trans ((hlk.out _).trans ho9)); have Z9 := Lib.hid (Z3.out.out OW.out (by omega)); have M9 := Lib.hid hm9; clear ho9 hm9 hS8 hlk; have z0 := Z9.out.c0; have zf0 := Z9.out.f 0 (by omega); have z1 := Z9.out.c1; have zf1 := Z9.out.f 1 (by omega); have z2 := Z9.out.c2; have zf2 := Z9.out.f 2 (by omega); have z3 := Z9.out.c3; have zf3 := Z9.out.f 3 (by omega); have z4 := Z9.out.c4; have zf4 := Z9.out.f 4 (by omega))
)
  have O9 := Lib.hid ((Out.of_below (· = Y) B3.out).trans OW.out)
  clear ‹_ ∧ _ ∧ _ ∧ _ ∧ _ ∧ _ ∧ _ ∧ _›
  generalize hV : World.setCell _ ⟨W.heap.size + 1, 4, none⟩ _ = V
  have hV' : setEv w9 (W.heap.size + 1) 0 0 0 0 0 = V := hV
  obtain ⟨ev, m4, o4⟩ := fin_ev hV' M9.out Z9.out O9.out hY (by omega)
  clear hV hV' z0 z1 z2 z3 z4 zf0 zf1 zf2 zf3 zf4
  have x0 := ev.c0
  have x1 := ev.c1
  have x2 := ev.c2
  have x3 := ev.c3
  have x4 := ev.c4
  go_wp2_with fail
  refine bodyPost_ret (v := .tuple #[.agg #[.int .u32 ((0 : Nat) : Int), .int .u32 ((0 : Nat) : Int), .int .i64 0, .int .u32 ((0 : Nat) : Int), .int .i64 0], .int .i64 0]) (by simp [results, Tryd.results45, go_sem, x0, x1, x2, x3, x4]) rfl ⟨rfl, m4, o4⟩
end Go.Proofs.YtidpaijnnkainaaDoor
