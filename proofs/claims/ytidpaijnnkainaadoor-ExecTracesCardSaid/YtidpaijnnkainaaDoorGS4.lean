/- The document's machine: an operation each. -/
import Derived.Test.YtidpaijnnkainaaDoorGS1
import Derived.Test.YtidpaijnnkainaaDoorGS2
import Derived.Test.YtidpaijnnkainaaDoorGS3
import Derived.Test.YtidpaijnnkainaaDoorGQ
namespace Go.Proofs.YtidpaijnnkainaaDoor
open Go Go.RowKit Pl
set_option linter.unusedVariables false

/-- what does reads of its own blocks: nothing's event, the operation, the target -/
abbrev SevC (b : Nat) (o : Int) (d : Nat) (w' : World) : Prop := w'.cell? ⟨b + 2, 0, none⟩ = some (.int .u32 ((0 : Nat) : Int)) ∧ w'.cell? ⟨b + 2, 1, none⟩ = some (.int .u32 ((0 : Nat) : Int)) ∧ w'.cell? ⟨b + 2, 2, none⟩ = some (.int .i64 0) ∧ w'.cell? ⟨b + 2, 3, none⟩ = some (.int .u32 ((0 : Nat) : Int)) ∧ w'.cell? ⟨b + 2, 4, none⟩ = some (.int .i64 0) ∧ w'.cell? ⟨b, 0, none⟩ = some (.int .i64 o) ∧ w'.cell? ⟨b, 1, none⟩ = some (.int .i64 (d : Nat))
theorem SevC.like {b : Nat} {o : Int} {d : Nat} {w w' : World} (h : SevC b o d w) (l : LikeG w w') : SevC b o d w' :=
  ⟨(l.cell _).trans h.1, (l.cell _).trans h.2.1, (l.cell _).trans h.2.2.1, (l.cell _).trans h.2.2.2.1, (l.cell _).trans h.2.2.2.2.1, (l.cell _).trans h.2.2.2.2.2.1, (l.cell _).trans h.2.2.2.2.2.2⟩
theorem SevC.out {b k : Nat} {o : Int} {d : Nat} {w w' : World} (h : SevC b o d w) (l : Out (· = k) w w') (h1 : b ≠ k) (h2 : b + 2 ≠ k) : SevC b o d w' := by
  obtain ⟨a0, a1, a2, a3, a4, a5, a6⟩ := h
  have l1 := World.block_lt_of_cell? w _ a0
  have l2 := World.block_lt_of_cell? w _ a5
  exact ⟨(l.cell (p := ⟨b + 2, 0, none⟩) l1 h2).trans a0, (l.cell (p := ⟨b + 2, 1, none⟩) l1 h2).trans a1, (l.cell (p := ⟨b + 2, 2, none⟩) l1 h2).trans a2, (l.cell (p := ⟨b + 2, 3, none⟩) l1 h2).trans a3, (l.cell (p := ⟨b + 2, 4, none⟩) l1 h2).trans a4, (l.cell (p := ⟨b, 0, none⟩) l2 h1).trans a5, (l.cell (p := ⟨b, 1, none⟩) l2 h1).trans a6⟩
theorem SevC.set {b i : Nat} {o : Int} {d : Nat} {v : Value} {w : World} (h : SevC b o d w) : SevC b o d (w.setCell ⟨b + 1, i, none⟩ v) := h.out (out_cell _ _ _ _) (by omega) (by omega)
theorem SevC.ev {b p w0 : Nat} {k : Int} {a : Nat} {s : Int} {o : Int} {d : Nat} {w : World} (h : SevC b o d w) : SevC b o d (setEv w (b + 1) p w0 k a s) := h.out (setEv_out _ _ _ _ _ _ _) (by omega) (by omega)
set_option maxRecDepth 100000 in
set_option maxHeartbeats 4000000 in
theorem rdo_alu {Y X pc : Nat} {r : Nat → Nat} {W : World} (h : MachIs Y X pc r W) (o : Int) (d u v : Nat) (im : Int) (hd : d < 32) (hu : u < 32) (hv : v < 32) (nx : Nat) (hnx : nx = (pc + 4) % 4294967296) (ho : 1 ≤ o ∧ o ≤ 18) :
    Calls Tryd.prog 45 #[.pointer (some ⟨Y, 0, none⟩), .agg #[.int .i64 o, .int .i64 (d : Nat), .int .i64 (u : Nat), .int .i64 (v : Nat), .int .i32 im]] W fun e w' => e = .returned (.tuple #[.agg #[.int .u32 ((0 : Nat) : Int), .int .u32 ((0 : Nat) : Int), .int .i64 0, .int .u32 ((0 : Nat) : Int), .int .i64 0], .int .i64 0]) ∧ MachIs Y X nx (setR r d (aluS o (r u : Nat) (r v : Nat)).toNat) w' ∧ Out (· = Y) W w' := by
  have AB := aluS_bd (op := o) (a := (r u : Nat)) (b := (r v : Nat)) (by omega) (by have := h.rb u; omega) (by omega) (by have := h.rb v; omega)
  have AL := Lib.hid (fun W' => rcalu_any (o) (r u : Nat) (r v : Nat) W' (by omega) (by omega) (by omega) (by have := h.rb u; omega) (by omega) (by have := h.rb v; omega))
  have HY := Lib.hid (show aluS (o) (r u : Nat) (r v : Nat) = (((aluS (o) (r u : Nat) (r v : Nat)).toNat : Nat) : Int) by omega)
  have ylt : (aluS (o) (r u : Nat) (r v : Nat)).toNat < 4294967296 := by omega
  clear AB
  generalize hyy : (aluS (o) (r u : Nat) (r v : Nat)).toNat = y at *
  clear hyy
  have q18 : decide (o ≤ 18) = true := by simp; omega
  clear ho
  have H := Lib.hid h
  have hY := h.lt
  have hpc := h.pcb
  have bu := h.rb u
  have bv := h.rb v
  have hu0 : (u : Int) < 32 := by omega
  have hv0 : (v : Int) < 32 := by omega
  have hd0 : (d : Int) < 32 := by omega
  have bu0 : ((r u : Nat) : Int) < 4294967296 := by omega
  have bv0 : ((r v : Nat) : Int) < 4294967296 := by omega
  have HN := Lib.hid (nC_wrap im)
  have hnb := nC_lt im
  have HW := Lib.hid (show IntKind.u32.wrap ((pc : Int) + 4) = (nx : Int) by rw [IntKind.wrap_u32]; omega)
  have nlt : nx < 4294967296 := by omega
  clear hnx
  clear h
  go_enter Tryd.func45, Tryd.ntmps45
  go_upto_region 2 with (fail)
  obtain ⟨g1, g2, g4, g3⟩ := three_alloc W (.cells #[.int .i64 o, .int .i64 (d : Nat), .int .i64 (u : Nat), .int .i64 (v : Nat), .int .i32 im] 85) (.cells #[.int .u32 0, .int .u32 0, .int .i64 0, .int .u32 0, .int .i64 0] 76) (.cells #[.int .u32 0, .int .u32 0, .int .i64 0, .int .u32 0, .int .i64 0] 76)
  have I1 := Lib.hid (insAt_of g1)
  have Z1 := Lib.hid (evAt_of (p := 0) (w := 0) (a := 0) g2)
  have N1 := Lib.hid (evAt_of (p := 0) (w := 0) (a := 0) g4)
  have B1 := Lib.hid g3
  have sz1 : (((W.alloc (.cells #[.int .i64 o, .int .i64 (d : Nat), .int .i64 (u : Nat), .int .i64 (v : Nat), .int .i32 im] 85)).alloc (.cells #[.int .u32 0, .int .u32 0, .int .i64 0, .int .u32 0, .int .i64 0] 76)).alloc (.cells #[.int .u32 0, .int .u32 0, .int .i64 0, .int .u32 0, .int .i64 0] 76)).heap.size = W.heap.size + 3 := by simp
  clear g1 g2 g3 g4
  generalize World.alloc _ _ = W1 at *
  have i2 := I1.out.c2
  have i3 := I1.out.c3
  have i4 := I1.out.c4
  have c1 := (H.out.below B1.out).c1
  have cu := (H.out.below B1.out).c u hu
  have cv := (H.out.below B1.out).c v hv
  have L1 := LikeG.refl W1
  go_region_held3 (fun w' => w'.cell? ⟨W.heap.size, 2, none⟩ = some (.int .i64 (u : Nat)) ∧ w'.cell? ⟨W.heap.size, 3, none⟩ = some (.int .i64 (v : Nat)) ∧ w'.cell? ⟨W.heap.size, 4, none⟩ = some (.int .i32 im) ∧ w'.cell? ⟨Y, 1, none⟩ = some (.int .u32 (pc : Nat)) ∧ w'.cell? ⟨Y, 2 + u, none⟩ = some (.int .u32 (r u : Nat)) ∧ w'.cell? ⟨Y, 2 + v, none⟩ = some (.int .u32 (r v : Nat)))
    (first | (with_reducible assumption) | (exact ⟨i2, i3, i4, c1, cu, cv⟩))
    (fail)
  clear ‹_ ∧ _ ∧ _ ∧ _ ∧ _ ∧ _›
  rw [HN.out, HW.out]
  have lk : LikeG W1 W1.drew := like_drew L1
  have I2 := Lib.hid (I1.out.out (lk.out (fun _ => False)) id)
  have Z2 := Lib.hid (Z1.out.out (lk.out (fun _ => False)) id)
  have N2 := Lib.hid (N1.out.out (lk.out (fun _ => False)) id)
  have B2 := Lib.hid (lk.2 _ _ B1.out)
  have sz2 : W1.drew.heap.size = W.heap.size + 3 := sz1
  clear lk I1 Z1 N1 B1 i2 i3 i4 c1 cu cv L1 sz1
  generalize World.drew W1 = W2 at *
  have i0 := I2.out.c0
  have i1 := I2.out.c1
  have n0 := N2.out.c0
  have n1 := N2.out.c1
  have n2 := N2.out.c2
  have n3 := N2.out.c3
  have n4 := N2.out.c4
  go_wp2_with fail
  have SETC := Lib.hid (fun W' (hm : MachIs Y X pc r W') => rcset_any hm d y hd ylt nx nlt)
  have hS : SevC W.heap.size o d W2.drew := ⟨n0, n1, n2, n3, n4, i0, i1⟩
  have HD := Lib.hid (show MachIs Y X pc r W2.drew from (H.out.below B2.out).like (like_drew (LikeG.refl W2)))
  go_region_held3 (fun w' => w'.cell? ⟨W.heap.size + 2, 0, none⟩ = some (.int .u32 ((0 : Nat) : Int)) ∧ w'.cell? ⟨W.heap.size + 2, 1, none⟩ = some (.int .u32 ((0 : Nat) : Int)) ∧ w'.cell? ⟨W.heap.size + 2, 2, none⟩ = some (.int .i64 0) ∧ w'.cell? ⟨W.heap.size + 2, 3, none⟩ = some (.int .u32 ((0 : Nat) : Int)) ∧ w'.cell? ⟨W.heap.size + 2, 4, none⟩ = some (.int .i64 0) ∧ w'.cell? ⟨W.heap.size, 0, none⟩ = some (.int .i64 o) ∧ w'.cell? ⟨W.heap.size, 1, none⟩ = some (.int .i64 (d : Nat)))
    (first | (with_reducible assumption) | (with_reducible exact hS) | (with_reducible exact hS8) | (with_reducible exact hS9.out) | (with_reducible exact SevC.set (SevC.set (SevC.set (SevC.set (SevC.set hS9.out))))))
    (first
    | (go_at_call 65; (with_reducible refine (AL.out _).mono ?_); rintro e w8 ⟨rfl, hlk⟩; rw [HY.out]; have hS8 : SevC W.heap.size o d w8 := hS.like hlk)
    | (go_at_call 64; (with_reducible refine (SETC.out _ (HD.out.like hlk)).mono ?_); rintro e w9 ⟨rfl, hm9, ho9⟩; have hS9 := Lib.hid (show SevC W.heap.size o d w9 from hS8.out ho9 (by omega) (by omega)); have OW := Lib.hid (show Out (· = Y) W2 w9 from ((like_drew (LikeG.refl W2)).out _).trans ((hlk.out _).trans ho9)); have Z9 := Lib.hid (Z2.out.out OW.out (by omega)); have M9 := Lib.hid hm9; clear ho9 hm9 hS8 hlk; have z0 := Z9.out.c0; have zf0 := Z9.out.f 0 (by omega); have z1 := Z9.out.c1; have zf1 := Z9.out.f 1 (by omega); have z2 := Z9.out.c2; have zf2 := Z9.out.f 2 (by omega); have z3 := Z9.out.c3; have zf3 := Z9.out.f 3 (by omega); have z4 := Z9.out.c4; have zf4 := Z9.out.f 4 (by omega))
)
  have O9 := Lib.hid ((Out.of_below (· = Y) B2.out).trans OW.out)
  clear ‹_ ∧ _ ∧ _ ∧ _ ∧ _ ∧ _ ∧ _›
  generalize hV : World.setCell _ ⟨W.heap.size + 1, 4, none⟩ _ = V
  have hV' : setEv w9 (W.heap.size + 1) 0 0 0 0 0 = V := hV
  obtain ⟨ev, m4, o4⟩ := fin_ev hV' M9.out Z9.out O9.out hY (by omega)
  clear hV hV' z0 z1 z2 z3 z4 zf0 zf1 zf2 zf3 zf4
  have x0 := ev.c0
  have x1 := ev.c1
  have x2 := ev.c2
  have x3 := ev.c3
  have x4 := ev.c4
  go_wp2_with fail
  refine bodyPost_ret (v := .tuple #[.agg #[.int .u32 ((0 : Nat) : Int), .int .u32 ((0 : Nat) : Int), .int .i64 0, .int .u32 ((0 : Nat) : Int), .int .i64 0], .int .i64 0]) (by simp [results, Tryd.results45, go_sem, x0, x1, x2, x3, x4]) rfl ⟨rfl, m4, o4⟩
set_option maxRecDepth 100000 in
set_option maxHeartbeats 4000000 in
theorem rdo_lui {Y X pc : Nat} {r : Nat → Nat} {W : World} (h : MachIs Y X pc r W) (o : Int) (d u v : Nat) (im : Int) (hd : d < 32) (hu : u < 32) (hv : v < 32) (nx : Nat) (hnx : nx = (pc + 4) % 4294967296) (ho : o = 42) :
    Calls Tryd.prog 45 #[.pointer (some ⟨Y, 0, none⟩), .agg #[.int .i64 o, .int .i64 (d : Nat), .int .i64 (u : Nat), .int .i64 (v : Nat), .int .i32 im]] W fun e w' => e = .returned (.tuple #[.agg #[.int .u32 ((0 : Nat) : Int), .int .u32 ((0 : Nat) : Int), .int .i64 0, .int .u32 ((0 : Nat) : Int), .int .i64 0], .int .i64 0]) ∧ MachIs Y X nx (setR r d (nC im)) w' ∧ Out (· = Y) W w' := by
  have ylt : nC im < 4294967296 := nC_lt im
  have q18 : decide (o ≤ 18) = false := by simp; omega
  have q27 : decide (o ≤ 27) = false := by simp; omega
  have q35 : decide (o ≤ 35) = false := by simp; omega
  have q41 : decide (o ≤ 41) = false := by simp; omega
  have q42 : (o == 42) = true := by simp; omega
  clear ho
  have H := Lib.hid h
  have hY := h.lt
  have hpc := h.pcb
  have bu := h.rb u
  have bv := h.rb v
  have hu0 : (u : Int) < 32 := by omega
  have hv0 : (v : Int) < 32 := by omega
  have hd0 : (d : Int) < 32 := by omega
  have bu0 : ((r u : Nat) : Int) < 4294967296 := by omega
  have bv0 : ((r v : Nat) : Int) < 4294967296 := by omega
  have HN := Lib.hid (nC_wrap im)
  have hnb := nC_lt im
  have HW := Lib.hid (show IntKind.u32.wrap ((pc : Int) + 4) = (nx : Int) by rw [IntKind.wrap_u32]; omega)
  have nlt : nx < 4294967296 := by omega
  clear hnx
  clear h
  go_enter Tryd.func45, Tryd.ntmps45
  go_upto_region 2 with (fail)
  obtain ⟨g1, g2, g4, g3⟩ := three_alloc W (.cells #[.int .i64 o, .int .i64 (d : Nat), .int .i64 (u : Nat), .int .i64 (v : Nat), .int .i32 im] 85) (.cells #[.int .u32 0, .int .u32 0, .int .i64 0, .int .u32 0, .int .i64 0] 76) (.cells #[.int .u32 0, .int .u32 0, .int .i64 0, .int .u32 0, .int .i64 0] 76)
  have I1 := Lib.hid (insAt_of g1)
  have Z1 := Lib.hid (evAt_of (p := 0) (w := 0) (a := 0) g2)
  have N1 := Lib.hid (evAt_of (p := 0) (w := 0) (a := 0) g4)
  have B1 := Lib.hid g3
  have sz1 : (((W.alloc (.cells #[.int .i64 o, .int .i64 (d : Nat), .int .i64 (u : Nat), .int .i64 (v : Nat), .int .i32 im] 85)).alloc (.cells #[.int .u32 0, .int .u32 0, .int .i64 0, .int .u32 0, .int .i64 0] 76)).alloc (.cells #[.int .u32 0, .int .u32 0, .int .i64 0, .int .u32 0, .int .i64 0] 76)).heap.size = W.heap.size + 3 := by simp
  clear g1 g2 g3 g4
  generalize World.alloc _ _ = W1 at *
  have i2 := I1.out.c2
  have i3 := I1.out.c3
  have i4 := I1.out.c4
  have c1 := (H.out.below B1.out).c1
  have cu := (H.out.below B1.out).c u hu
  have cv := (H.out.below B1.out).c v hv
  have L1 := LikeG.refl W1
  go_region_held3 (fun w' => w'.cell? ⟨W.heap.size, 2, none⟩ = some (.int .i64 (u : Nat)) ∧ w'.cell? ⟨W.heap.size, 3, none⟩ = some (.int .i64 (v : Nat)) ∧ w'.cell? ⟨W.heap.size, 4, none⟩ = some (.int .i32 im) ∧ w'.cell? ⟨Y, 1, none⟩ = some (.int .u32 (pc : Nat)) ∧ w'.cell? ⟨Y, 2 + u, none⟩ = some (.int .u32 (r u : Nat)) ∧ w'.cell? ⟨Y, 2 + v, none⟩ = some (.int .u32 (r v : Nat)))
    (first | (with_reducible assumption) | (exact ⟨i2, i3, i4, c1, cu, cv⟩))
    (fail)
  clear ‹_ ∧ _ ∧ _ ∧ _ ∧ _ ∧ _›
  rw [HN.out, HW.out]
  have lk : LikeG W1 W1.drew := like_drew L1
  have I2 := Lib.hid (I1.out.out (lk.out (fun _ => False)) id)
  have Z2 := Lib.hid (Z1.out.out (lk.out (fun _ => False)) id)
  have N2 := Lib.hid (N1.out.out (lk.out (fun _ => False)) id)
  have B2 := Lib.hid (lk.2 _ _ B1.out)
  have sz2 : W1.drew.heap.size = W.heap.size + 3 := sz1
  clear lk I1 Z1 N1 B1 i2 i3 i4 c1 cu cv L1 sz1
  generalize World.drew W1 = W2 at *
  have i0 := I2.out.c0
  have i1 := I2.out.c1
  have n0 := N2.out.c0
  have n1 := N2.out.c1
  have n2 := N2.out.c2
  have n3 := N2.out.c3
  have n4 := N2.out.c4
  go_wp2_with fail
  have SETC := Lib.hid (fun W' (hm : MachIs Y X pc r W') => rcset_any hm d (nC im) hd ylt nx nlt)
  have hS : SevC W.heap.size o d W2.drew := ⟨n0, n1, n2, n3, n4, i0, i1⟩
  have HD := Lib.hid (show MachIs Y X pc r W2.drew from (H.out.below B2.out).like (like_drew (LikeG.refl W2)))
  go_region_held3 (fun w' => w'.cell? ⟨W.heap.size + 2, 0, none⟩ = some (.int .u32 ((0 : Nat) : Int)) ∧ w'.cell? ⟨W.heap.size + 2, 1, none⟩ = some (.int .u32 ((0 : Nat) : Int)) ∧ w'.cell? ⟨W.heap.size + 2, 2, none⟩ = some (.int .i64 0) ∧ w'.cell? ⟨W.heap.size + 2, 3, none⟩ = some (.int .u32 ((0 : Nat) : Int)) ∧ w'.cell? ⟨W.heap.size + 2, 4, none⟩ = some (.int .i64 0) ∧ w'.cell? ⟨W.heap.size, 0, none⟩ = some (.int .i64 o) ∧ w'.cell? ⟨W.heap.size, 1, none⟩ = some (.int .i64 (d : Nat)))
    (first | (with_reducible assumption) | (with_reducible exact hS) | (with_reducible exact hS8) | (with_reducible exact hS9.out) | (with_reducible exact SevC.set (SevC.set (SevC.set (SevC.set (SevC.set hS9.out))))))
    (first
    | (go_at_call 64; (with_reducible refine (SETC.out _ HD.out).mono ?_); rintro e w9 ⟨rfl, hm9, ho9⟩; have hS9 := Lib.hid (show SevC W.heap.size o d w9 from hS.out ho9 (by omega) (by omega)); have OW := Lib.hid (show Out (· = Y) W2 w9 from ((like_drew (LikeG.refl W2)).out _).trans ho9); have Z9 := Lib.hid (Z2.out.out OW.out (by omega)); have M9 := Lib.hid hm9; clear ho9 hm9; have z0 := Z9.out.c0; have zf0 := Z9.out.f 0 (by omega); have z1 := Z9.out.c1; have zf1 := Z9.out.f 1 (by omega); have z2 := Z9.out.c2; have zf2 := Z9.out.f 2 (by omega); have z3 := Z9.out.c3; have zf3 := Z9.out.f 3 (by omega); have z4 := Z9.out.c4; have zf4 := Z9.out.f 4 (by omega))
)
  have O9 := Lib.hid ((Out.of_below (· = Y) B2.out).trans OW.out)
  clear ‹_ ∧ _ ∧ _ ∧ _ ∧ _ ∧ _ ∧ _›
  generalize hV : World.setCell _ ⟨W.heap.size + 1, 4, none⟩ _ = V
  have hV' : setEv w9 (W.heap.size + 1) 0 0 0 0 0 = V := hV
  obtain ⟨ev, m4, o4⟩ := fin_ev hV' M9.out Z9.out O9.out hY (by omega)
  clear hV hV' z0 z1 z2 z3 z4 zf0 zf1 zf2 zf3 zf4
  have x0 := ev.c0
  have x1 := ev.c1
  have x2 := ev.c2
  have x3 := ev.c3
  have x4 := ev.c4
  go_wp2_with fail
  refine bodyPost_ret (v := .tuple #[.agg #[.int .u32 ((0 : Nat) : Int), .int .u32 ((0 : Nat) : Int), .int .i64 0, .int .u32 ((0 : Nat) : Int), .int .i64 0], .int .i64 0]) (by simp [results, Tryd.results45, go_sem, x0, x1, x2, x3, x4]) rfl ⟨rfl, m4, o4⟩
set_option maxRecDepth 100000 in
set_option maxHeartbeats 4000000 in
theorem rdo_fence {Y X pc : Nat} {r : Nat → Nat} {W : World} (h : MachIs Y X pc r W) (o : Int) (d u v : Nat) (im : Int) (hd : d < 32) (hu : u < 32) (hv : v < 32) (nx : Nat) (hnx : nx = (pc + 4) % 4294967296) (ho : o = 46) :
    Calls Tryd.prog 45 #[.pointer (some ⟨Y, 0, none⟩), .agg #[.int .i64 o, .int .i64 (d : Nat), .int .i64 (u : Nat), .int .i64 (v : Nat), .int .i32 im]] W fun e w' => e = .returned (.tuple #[.agg #[.int .u32 ((0 : Nat) : Int), .int .u32 ((0 : Nat) : Int), .int .i64 0, .int .u32 ((0 : Nat) : Int), .int .i64 0], .int .i64 0]) ∧ MachIs Y X nx r w' ∧ Out (· = Y) W w' := by
  have q18 : decide (o ≤ 18) = false := by simp; omega
  have q27 : decide (o ≤ 27) = false := by simp; omega
  have q35 : decide (o ≤ 35) = false := by simp; omega
  have q41 : decide (o ≤ 41) = false := by simp; omega
  have q42 : (o == 42) = false := by simp; omega
  have q43 : (o == 43) = false := by simp; omega
  have q44 : (o == 44) = false := by simp; omega
  have q45 : (o == 45) = false := by simp; omega
  have q46 : (o == 46) = true := by simp; omega
  clear ho
  have H := Lib.hid h
  have hY := h.lt
  have hpc := h.pcb
  have bu := h.rb u
  have bv := h.rb v
  have hu0 : (u : Int) < 32 := by omega
  have hv0 : (v : Int) < 32 := by omega
  have hd0 : (d : Int) < 32 := by omega
  have bu0 : ((r u : Nat) : Int) < 4294967296 := by omega
  have bv0 : ((r v : Nat) : Int) < 4294967296 := by omega
  have HN := Lib.hid (nC_wrap im)
  have hnb := nC_lt im
  have HW := Lib.hid (show IntKind.u32.wrap ((pc : Int) + 4) = (nx : Int) by rw [IntKind.wrap_u32]; omega)
  have nlt : nx < 4294967296 := by omega
  clear hnx
  clear h
  go_enter Tryd.func45, Tryd.ntmps45
  go_upto_region 2 with (fail)
  obtain ⟨g1, g2, g4, g3⟩ := three_alloc W (.cells #[.int .i64 o, .int .i64 (d : Nat), .int .i64 (u : Nat), .int .i64 (v : Nat), .int .i32 im] 85) (.cells #[.int .u32 0, .int .u32 0, .int .i64 0, .int .u32 0, .int .i64 0] 76) (.cells #[.int .u32 0, .int .u32 0, .int .i64 0, .int .u32 0, .int .i64 0] 76)
  have I1 := Lib.hid (insAt_of g1)
  have Z1 := Lib.hid (evAt_of (p := 0) (w := 0) (a := 0) g2)
  have N1 := Lib.hid (evAt_of (p := 0) (w := 0) (a := 0) g4)
  have B1 := Lib.hid g3
  have sz1 : (((W.alloc (.cells #[.int .i64 o, .int .i64 (d : Nat), .int .i64 (u : Nat), .int .i64 (v : Nat), .int .i32 im] 85)).alloc (.cells #[.int .u32 0, .int .u32 0, .int .i64 0, .int .u32 0, .int .i64 0] 76)).alloc (.cells #[.int .u32 0, .int .u32 0, .int .i64 0, .int .u32 0, .int .i64 0] 76)).heap.size = W.heap.size + 3 := by simp
  clear g1 g2 g3 g4
  generalize World.alloc _ _ = W1 at *
  have i2 := I1.out.c2
  have i3 := I1.out.c3
  have i4 := I1.out.c4
  have c1 := (H.out.below B1.out).c1
  have cu := (H.out.below B1.out).c u hu
  have cv := (H.out.below B1.out).c v hv
  have L1 := LikeG.refl W1
  go_region_held3 (fun w' => w'.cell? ⟨W.heap.size, 2, none⟩ = some (.int .i64 (u : Nat)) ∧ w'.cell? ⟨W.heap.size, 3, none⟩ = some (.int .i64 (v : Nat)) ∧ w'.cell? ⟨W.heap.size, 4, none⟩ = some (.int .i32 im) ∧ w'.cell? ⟨Y, 1, none⟩ = some (.int .u32 (pc : Nat)) ∧ w'.cell? ⟨Y, 2 + u, none⟩ = some (.int .u32 (r u : Nat)) ∧ w'.cell? ⟨Y, 2 + v, none⟩ = some (.int .u32 (r v : Nat)))
    (first | (with_reducible assumption) | (exact ⟨i2, i3, i4, c1, cu, cv⟩))
    (fail)
  clear ‹_ ∧ _ ∧ _ ∧ _ ∧ _ ∧ _›
  rw [HN.out, HW.out]
  have lk : LikeG W1 W1.drew := like_drew L1
  have I2 := Lib.hid (I1.out.out (lk.out (fun _ => False)) id)
  have Z2 := Lib.hid (Z1.out.out (lk.out (fun _ => False)) id)
  have N2 := Lib.hid (N1.out.out (lk.out (fun _ => False)) id)
  have B2 := Lib.hid (lk.2 _ _ B1.out)
  have sz2 : W1.drew.heap.size = W.heap.size + 3 := sz1
  clear lk I1 Z1 N1 B1 i2 i3 i4 c1 cu cv L1 sz1
  generalize World.drew W1 = W2 at *
  have i0 := I2.out.c0
  have i1 := I2.out.c1
  have n0 := N2.out.c0
  have n1 := N2.out.c1
  have n2 := N2.out.c2
  have n3 := N2.out.c3
  have n4 := N2.out.c4
  go_wp2_with fail
  have SETN := Lib.hid (fun W' (hm : MachIs Y X pc r W') => rcset_none hm 0 nx nlt)
  have hS : SevC W.heap.size o d W2.drew := ⟨n0, n1, n2, n3, n4, i0, i1⟩
  have HD := Lib.hid (show MachIs Y X pc r W2.drew from (H.out.below B2.out).like (like_drew (LikeG.refl W2)))
  go_region_held3 (fun w' => w'.cell? ⟨W.heap.size + 2, 0, none⟩ = some (.int .u32 ((0 : Nat) : Int)) ∧ w'.cell? ⟨W.heap.size + 2, 1, none⟩ = some (.int .u32 ((0 : Nat) : Int)) ∧ w'.cell? ⟨W.heap.size + 2, 2, none⟩ = some (.int .i64 0) ∧ w'.cell? ⟨W.heap.size + 2, 3, none⟩ = some (.int .u32 ((0 : Nat) : Int)) ∧ w'.cell? ⟨W.heap.size + 2, 4, none⟩ = some (.int .i64 0) ∧ w'.cell? ⟨W.heap.size, 0, none⟩ = some (.int .i64 o) ∧ w'.cell? ⟨W.heap.size, 1, none⟩ = some (.int .i64 (d : Nat)))
    (first | (with_reducible assumption) | (with_reducible exact hS) | (with_reducible exact hS8) | (with_reducible exact hS9.out) | (with_reducible exact SevC.set (SevC.set (SevC.set (SevC.set (SevC.set hS9.out))))))
    (first
    | (go_at_call 64; (with_reducible refine (SETN.out _ HD.out).mono ?_); rintro e w9 ⟨rfl, hm9, ho9⟩; have hS9 := Lib.hid (show SevC W.heap.size o d w9 from hS.out ho9 (by omega) (by omega)); have OW := Lib.hid (show Out (· = Y) W2 w9 from ((like_drew (LikeG.refl W2)).out _).trans ho9); have Z9 := Lib.hid (Z2.out.out OW.out (by omega)); have M9 := Lib.hid hm9; clear ho9 hm9; have z0 := Z9.out.c0; have zf0 := Z9.out.f 0 (by omega); have z1 := Z9.out.c1; have zf1 := Z9.out.f 1 (by omega); have z2 := Z9.out.c2; have zf2 := Z9.out.f 2 (by omega); have z3 := Z9.out.c3; have zf3 := Z9.out.f 3 (by omega); have z4 := Z9.out.c4; have zf4 := Z9.out.f 4 (by omega))
)
  have O9 := Lib.hid ((Out.of_below (· = Y) B2.out).trans OW.out)
  clear ‹_ ∧ _ ∧ _ ∧ _ ∧ _ ∧ _ ∧ _›
  generalize hV : World.setCell _ ⟨W.heap.size + 1, 4, none⟩ _ = V
  have hV' : setEv w9 (W.heap.size + 1) 0 0 0 0 0 = V := hV
  obtain ⟨ev, m4, o4⟩ := fin_ev hV' M9.out Z9.out O9.out hY (by omega)
  clear hV hV' z0 z1 z2 z3 z4 zf0 zf1 zf2 zf3 zf4
  have x0 := ev.c0
  have x1 := ev.c1
  have x2 := ev.c2
  have x3 := ev.c3
  have x4 := ev.c4
  go_wp2_with fail
  refine bodyPost_ret (v := .tuple #[.agg #[.int .u32 ((0 : Nat) : Int), .int .u32 ((0 : Nat) : Int), .int .i64 0, .int .u32 ((0 : Nat) : Int), .int .i64 0], .int .i64 0]) (by simp [results, Tryd.results45, go_sem, x0, x1, x2, x3, x4]) rfl ⟨rfl, m4, o4⟩
set_option maxRecDepth 100000 in
set_option maxHeartbeats 4000000 in
theorem rdo_bno {Y X pc : Nat} {r : Nat → Nat} {W : World} (h : MachIs Y X pc r W) (o : Int) (d u v : Nat) (im : Int) (hd : d < 32) (hu : u < 32) (hv : v < 32) (nx : Nat) (hnx : nx = (pc + 4) % 4294967296) (ho : 36 ≤ o ∧ o ≤ 41) (ht : takenS o (r u) (r v) = false) :
    Calls Tryd.prog 45 #[.pointer (some ⟨Y, 0, none⟩), .agg #[.int .i64 o, .int .i64 (d : Nat), .int .i64 (u : Nat), .int .i64 (v : Nat), .int .i32 im]] W fun e w' => e = .returned (.tuple #[.agg #[.int .u32 ((0 : Nat) : Int), .int .u32 ((0 : Nat) : Int), .int .i64 0, .int .u32 ((0 : Nat) : Int), .int .i64 0], .int .i64 0]) ∧ MachIs Y X nx r w' ∧ Out (· = Y) W w' := by
  have TK := Lib.hid (fun W' => rtaken_any o (r u) (r v) W' (by omega) (h.rb u) (h.rb v))
  have HT := Lib.hid ht
  clear ht
  have q18 : decide (o ≤ 18) = false := by simp; omega
  have q27 : decide (o ≤ 27) = false := by simp; omega
  have q35 : decide (o ≤ 35) = false := by simp; omega
  have q41 : decide (o ≤ 41) = true := by simp; omega
  clear ho
  have H := Lib.hid h
  have hY := h.lt
  have hpc := h.pcb
  have bu := h.rb u
  have bv := h.rb v
  have hu0 : (u : Int) < 32 := by omega
  have hv0 : (v : Int) < 32 := by omega
  have hd0 : (d : Int) < 32 := by omega
  have bu0 : ((r u : Nat) : Int) < 4294967296 := by omega
  have bv0 : ((r v : Nat) : Int) < 4294967296 := by omega
  have HN := Lib.hid (nC_wrap im)
  have hnb := nC_lt im
  have HW := Lib.hid (show IntKind.u32.wrap ((pc : Int) + 4) = (nx : Int) by rw [IntKind.wrap_u32]; omega)
  have nlt : nx < 4294967296 := by omega
  clear hnx
  clear h
  go_enter Tryd.func45, Tryd.ntmps45
  go_upto_region 2 with (fail)
  obtain ⟨g1, g2, g4, g3⟩ := three_alloc W (.cells #[.int .i64 o, .int .i64 (d : Nat), .int .i64 (u : Nat), .int .i64 (v : Nat), .int .i32 im] 85) (.cells #[.int .u32 0, .int .u32 0, .int .i64 0, .int .u32 0, .int .i64 0] 76) (.cells #[.int .u32 0, .int .u32 0, .int .i64 0, .int .u32 0, .int .i64 0] 76)
  have I1 := Lib.hid (insAt_of g1)
  have Z1 := Lib.hid (evAt_of (p := 0) (w := 0) (a := 0) g2)
  have N1 := Lib.hid (evAt_of (p := 0) (w := 0) (a := 0) g4)
  have B1 := Lib.hid g3
  have sz1 : (((W.alloc (.cells #[.int .i64 o, .int .i64 (d : Nat), .int .i64 (u : Nat), .int .i64 (v : Nat), .int .i32 im] 85)).alloc (.cells #[.int .u32 0, .int .u32 0, .int .i64 0, .int .u32 0, .int .i64 0] 76)).alloc (.cells #[.int .u32 0, .int .u32 0, .int .i64 0, .int .u32 0, .int .i64 0] 76)).heap.size = W.heap.size + 3 := by simp
  clear g1 g2 g3 g4
  generalize World.alloc _ _ = W1 at *
  have i2 := I1.out.c2
  have i3 := I1.out.c3
  have i4 := I1.out.c4
  have c1 := (H.out.below B1.out).c1
  have cu := (H.out.below B1.out).c u hu
  have cv := (H.out.below B1.out).c v hv
  have L1 := LikeG.refl W1
  go_region_held3 (fun w' => w'.cell? ⟨W.heap.size, 2, none⟩ = some (.int .i64 (u : Nat)) ∧ w'.cell? ⟨W.heap.size, 3, none⟩ = some (.int .i64 (v : Nat)) ∧ w'.cell? ⟨W.heap.size, 4, none⟩ = some (.int .i32 im) ∧ w'.cell? ⟨Y, 1, none⟩ = some (.int .u32 (pc : Nat)) ∧ w'.cell? ⟨Y, 2 + u, none⟩ = some (.int .u32 (r u : Nat)) ∧ w'.cell? ⟨Y, 2 + v, none⟩ = some (.int .u32 (r v : Nat)))
    (first | (with_reducible assumption) | (exact ⟨i2, i3, i4, c1, cu, cv⟩))
    (fail)
  clear ‹_ ∧ _ ∧ _ ∧ _ ∧ _ ∧ _›
  rw [HN.out, HW.out]
  have lk : LikeG W1 W1.drew := like_drew L1
  have I2 := Lib.hid (I1.out.out (lk.out (fun _ => False)) id)
  have Z2 := Lib.hid (Z1.out.out (lk.out (fun _ => False)) id)
  have N2 := Lib.hid (N1.out.out (lk.out (fun _ => False)) id)
  have B2 := Lib.hid (lk.2 _ _ B1.out)
  have sz2 : W1.drew.heap.size = W.heap.size + 3 := sz1
  clear lk I1 Z1 N1 B1 i2 i3 i4 c1 cu cv L1 sz1
  generalize World.drew W1 = W2 at *
  have i0 := I2.out.c0
  have i1 := I2.out.c1
  have n0 := N2.out.c0
  have n1 := N2.out.c1
  have n2 := N2.out.c2
  have n3 := N2.out.c3
  have n4 := N2.out.c4
  go_wp2_with fail
  refine (TK.out _).mono ?_
  rw [HT.out]
  rintro e w' ⟨rfl, rfl⟩
  go_wp2_with fail
  have SETN := Lib.hid (fun W' (hm : MachIs Y X pc r W') => rcset_none hm 0 nx nlt)
  have hS : SevC W.heap.size o d W2.drew := ⟨n0, n1, n2, n3, n4, i0, i1⟩
  have HD := Lib.hid (show MachIs Y X pc r W2.drew from (H.out.below B2.out).like (like_drew (LikeG.refl W2)))
  go_region_held3 (fun w' => w'.cell? ⟨W.heap.size + 2, 0, none⟩ = some (.int .u32 ((0 : Nat) : Int)) ∧ w'.cell? ⟨W.heap.size + 2, 1, none⟩ = some (.int .u32 ((0 : Nat) : Int)) ∧ w'.cell? ⟨W.heap.size + 2, 2, none⟩ = some (.int .i64 0) ∧ w'.cell? ⟨W.heap.size + 2, 3, none⟩ = some (.int .u32 ((0 : Nat) : Int)) ∧ w'.cell? ⟨W.heap.size + 2, 4, none⟩ = some (.int .i64 0) ∧ w'.cell? ⟨W.heap.size, 0, none⟩ = some (.int .i64 o) ∧ w'.cell? ⟨W.heap.size, 1, none⟩ = some (.int .i64 (d : Nat)))
    (first | (with_reducible assumption) | (with_reducible exact hS) | (with_reducible exact hS8) | (with_reducible exact hS9.out) | (with_reducible exact SevC.set (SevC.set (SevC.set (SevC.set (SevC.set hS9.out))))))
    (first
    | (go_at_call 64; (with_reducible refine (SETN.out _ HD.out).mono ?_); rintro e w9 ⟨rfl, hm9, ho9⟩; have hS9 := Lib.hid (show SevC W.heap.size o d w9 from hS.out ho9 (by omega) (by omega)); have OW := Lib.hid (show Out (· = Y) W2 w9 from ((like_drew (LikeG.refl W2)).out _).trans ho9); have Z9 := Lib.hid (Z2.out.out OW.out (by omega)); have M9 := Lib.hid hm9; clear ho9 hm9; have z0 := Z9.out.c0; have zf0 := Z9.out.f 0 (by omega); have z1 := Z9.out.c1; have zf1 := Z9.out.f 1 (by omega); have z2 := Z9.out.c2; have zf2 := Z9.out.f 2 (by omega); have z3 := Z9.out.c3; have zf3 := Z9.out.f 3 (by omega); have z4 := Z9.out.c4; have zf4 := Z9.out.f 4 (by omega))
)
  have O9 := Lib.hid ((Out.of_below (· = Y) B2.out).trans OW.out)
  clear ‹_ ∧ _ ∧ _ ∧ _ ∧ _ ∧ _ ∧ _›
  generalize hV : World.setCell _ ⟨W.heap.size + 1, 4, none⟩ _ = V
  have hV' : setEv w9 (W.heap.size + 1) 0 0 0 0 0 = V := hV
  obtain ⟨ev, m4, o4⟩ := fin_ev hV' M9.out Z9.out O9.out hY (by omega)
  clear hV hV' z0 z1 z2 z3 z4 zf0 zf1 zf2 zf3 zf4
  have x0 := ev.c0
  have x1 := ev.c1
  have x2 := ev.c2
  have x3 := ev.c3
  have x4 := ev.c4
  go_wp2_with fail
  refine bodyPost_ret (v := .tuple #[.agg #[.int .u32 ((0 : Nat) : Int), .int .u32 ((0 : Nat) : Int), .int .i64 0, .int .u32 ((0 : Nat) : Int), .int .i64 0], .int .i64 0]) (by simp [results, Tryd.results45, go_sem, x0, x1, x2, x3, x4]) rfl ⟨rfl, m4, o4⟩
set_option maxRecDepth 100000 in
set_option maxHeartbeats 4000000 in
theorem rdo_jalr {Y X pc : Nat} {r : Nat → Nat} {W : World} (h : MachIs Y X pc r W) (o : Int) (d u v : Nat) (im : Int) (hd : d < 32) (hu : u < 32) (hv : v < 32) (nx : Nat) (hnx : nx = (pc + 4) % 4294967296) (ho : o = 45) (to : Nat) (hto : to < 4294967296) (jr : IntKind.u32.wrap (IntKind.u32.wrap ((IntKind.u32.wrap ((r u : Int) + (nC im : Int))).tdiv 2) * 2) = (to : Int)) :
    Calls Tryd.prog 45 #[.pointer (some ⟨Y, 0, none⟩), .agg #[.int .i64 o, .int .i64 (d : Nat), .int .i64 (u : Nat), .int .i64 (v : Nat), .int .i32 im]] W fun e w' => e = .returned (.tuple #[.agg #[.int .u32 ((0 : Nat) : Int), .int .u32 ((0 : Nat) : Int), .int .i64 0, .int .u32 ((0 : Nat) : Int), .int .i64 0], .int .i64 (ifA to 0 1)]) ∧ MachIs Y X (ifA to to pc) (ifA to (setR r d ((pc + 4) % 4294967296)) r) w' ∧ Out (· = Y) W w' := by
  have JT := Lib.hid jr
  clear jr
  have q18 : decide (o ≤ 18) = false := by simp; omega
  have q27 : decide (o ≤ 27) = false := by simp; omega
  have q35 : decide (o ≤ 35) = false := by simp; omega
  have q41 : decide (o ≤ 41) = false := by simp; omega
  have q42 : (o == 42) = false := by simp; omega
  have q43 : (o == 43) = false := by simp; omega
  have q44 : (o == 44) = false := by simp; omega
  have q45 : (o == 45) = true := by simp; omega
  clear ho
  have H := Lib.hid h
  have hY := h.lt
  have hpc := h.pcb
  have bu := h.rb u
  have bv := h.rb v
  have hu0 : (u : Int) < 32 := by omega
  have hv0 : (v : Int) < 32 := by omega
  have hd0 : (d : Int) < 32 := by omega
  have bu0 : ((r u : Nat) : Int) < 4294967296 := by omega
  have bv0 : ((r v : Nat) : Int) < 4294967296 := by omega
  have HN := Lib.hid (nC_wrap im)
  have hnb := nC_lt im
  have HW := Lib.hid (show IntKind.u32.wrap ((pc : Int) + 4) = (nx : Int) by rw [IntKind.wrap_u32]; omega)
  have nlt : nx < 4294967296 := by omega
  clear hnx
  clear h
  go_enter Tryd.func45, Tryd.ntmps45
  go_upto_region 2 with (fail)
  obtain ⟨g1, g2, g4, g3⟩ := three_alloc W (.cells #[.int .i64 o, .int .i64 (d : Nat), .int .i64 (u : Nat), .int .i64 (v : Nat), .int .i32 im] 85) (.cells #[.int .u32 0, .int .u32 0, .int .i64 0, .int .u32 0, .int .i64 0] 76) (.cells #[.int .u32 0, .int .u32 0, .int .i64 0, .int .u32 0, .int .i64 0] 76)
  have I1 := Lib.hid (insAt_of g1)
  have Z1 := Lib.hid (evAt_of (p := 0) (w := 0) (a := 0) g2)
  have N1 := Lib.hid (evAt_of (p := 0) (w := 0) (a := 0) g4)
  have B1 := Lib.hid g3
  have sz1 : (((W.alloc (.cells #[.int .i64 o, .int .i64 (d : Nat), .int .i64 (u : Nat), .int .i64 (v : Nat), .int .i32 im] 85)).alloc (.cells #[.int .u32 0, .int .u32 0, .int .i64 0, .int .u32 0, .int .i64 0] 76)).alloc (.cells #[.int .u32 0, .int .u32 0, .int .i64 0, .int .u32 0, .int .i64 0] 76)).heap.size = W.heap.size + 3 := by simp
  clear g1 g2 g3 g4
  generalize World.alloc _ _ = W1 at *
  have i2 := I1.out.c2
  have i3 := I1.out.c3
  have i4 := I1.out.c4
  have c1 := (H.out.below B1.out).c1
  have cu := (H.out.below B1.out).c u hu
  have cv := (H.out.below B1.out).c v hv
  have L1 := LikeG.refl W1
  go_region_held3 (fun w' => w'.cell? ⟨W.heap.size, 2, none⟩ = some (.int .i64 (u : Nat)) ∧ w'.cell? ⟨W.heap.size, 3, none⟩ = some (.int .i64 (v : Nat)) ∧ w'.cell? ⟨W.heap.size, 4, none⟩ = some (.int .i32 im) ∧ w'.cell? ⟨Y, 1, none⟩ = some (.int .u32 (pc : Nat)) ∧ w'.cell? ⟨Y, 2 + u, none⟩ = some (.int .u32 (r u : Nat)) ∧ w'.cell? ⟨Y, 2 + v, none⟩ = some (.int .u32 (r v : Nat)))
    (first | (with_reducible assumption) | (exact ⟨i2, i3, i4, c1, cu, cv⟩))
    (fail)
  clear ‹_ ∧ _ ∧ _ ∧ _ ∧ _ ∧ _›
  rw [HN.out, HW.out]
  have lk : LikeG W1 W1.drew := like_drew L1
  have I2 := Lib.hid (I1.out.out (lk.out (fun _ => False)) id)
  have Z2 := Lib.hid (Z1.out.out (lk.out (fun _ => False)) id)
  have N2 := Lib.hid (N1.out.out (lk.out (fun _ => False)) id)
  have B2 := Lib.hid (lk.2 _ _ B1.out)
  have sz2 : W1.drew.heap.size = W.heap.size + 3 := sz1
  clear lk I1 Z1 N1 B1 i2 i3 i4 c1 cu cv L1 sz1
  generalize World.drew W1 = W2 at *
  have i0 := I2.out.c0
  have i1 := I2.out.c1
  have n0 := N2.out.c0
  have n1 := N2.out.c1
  have n2 := N2.out.c2
  have n3 := N2.out.c3
  have n4 := N2.out.c4
  go_wp2_with fail
  have JUMP := Lib.hid (fun W' (hm : MachIs Y X pc r W') => rcjump_any hm to d hto hd)
  have hS : SevC W.heap.size o d W2.drew := ⟨n0, n1, n2, n3, n4, i0, i1⟩
  have HD := Lib.hid (show MachIs Y X pc r W2.drew from (H.out.below B2.out).like (like_drew (LikeG.refl W2)))
  go_region_held3 (fun w' => w'.cell? ⟨W.heap.size + 2, 0, none⟩ = some (.int .u32 ((0 : Nat) : Int)) ∧ w'.cell? ⟨W.heap.size + 2, 1, none⟩ = some (.int .u32 ((0 : Nat) : Int)) ∧ w'.cell? ⟨W.heap.size + 2, 2, none⟩ = some (.int .i64 0) ∧ w'.cell? ⟨W.heap.size + 2, 3, none⟩ = some (.int .u32 ((0 : Nat) : Int)) ∧ w'.cell? ⟨W.heap.size + 2, 4, none⟩ = some (.int .i64 0) ∧ w'.cell? ⟨W.heap.size, 0, none⟩ = some (.int .i64 o) ∧ w'.cell? ⟨W.heap.size, 1, none⟩ = some (.int .i64 (d : Nat)))
    (first | (with_reducible assumption) | (with_reducible exact hS) | (with_reducible exact hS8) | (with_reducible exact hS9.out) | (with_reducible exact SevC.set (SevC.set (SevC.set (SevC.set (SevC.set hS9.out))))))
    (first
    | (go_at_call 68; rw [JT.out]; (with_reducible refine (JUMP.out _ HD.out).mono ?_); rintro e w9 ⟨rfl, hm9, ho9⟩; have hS9 := Lib.hid (show SevC W.heap.size o d w9 from hS.out ho9 (by omega) (by omega)); have OW := Lib.hid (show Out (· = Y) W2 w9 from ((like_drew (LikeG.refl W2)).out _).trans ho9); have Z9 := Lib.hid (Z2.out.out OW.out (by omega)); have M9 := Lib.hid hm9; clear ho9 hm9; have z0 := Z9.out.c0; have zf0 := Z9.out.f 0 (by omega); have z1 := Z9.out.c1; have zf1 := Z9.out.f 1 (by omega); have z2 := Z9.out.c2; have zf2 := Z9.out.f 2 (by omega); have z3 := Z9.out.c3; have zf3 := Z9.out.f 3 (by omega); have z4 := Z9.out.c4; have zf4 := Z9.out.f 4 (by omega))
)
  have O9 := Lib.hid ((Out.of_below (· = Y) B2.out).trans OW.out)
  clear ‹_ ∧ _ ∧ _ ∧ _ ∧ _ ∧ _ ∧ _›
  generalize hV : World.setCell _ ⟨W.heap.size + 1, 4, none⟩ _ = V
  have hV' : setEv w9 (W.heap.size + 1) 0 0 0 0 0 = V := hV
  obtain ⟨ev, m4, o4⟩ := fin_ev hV' M9.out Z9.out O9.out hY (by omega)
  clear hV hV' z0 z1 z2 z3 z4 zf0 zf1 zf2 zf3 zf4
  have x0 := ev.c0
  have x1 := ev.c1
  have x2 := ev.c2
  have x3 := ev.c3
  have x4 := ev.c4
  go_wp2_with fail
  refine bodyPost_ret (v := .tuple #[.agg #[.int .u32 ((0 : Nat) : Int), .int .u32 ((0 : Nat) : Int), .int .i64 0, .int .u32 ((0 : Nat) : Int), .int .i64 0], .int .i64 (ifA to 0 1)]) (by simp [results, Tryd.results45, go_sem, x0, x1, x2, x3, x4]) rfl ⟨rfl, m4, o4⟩
end Go.Proofs.YtidpaijnnkainaaDoor
