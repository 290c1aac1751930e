/- The document's machine: jal. -/
import Derived.Test.YtidpaijnnkainaaDoorGS4
namespace Go.Proofs.YtidpaijnnkainaaDoor
open Go Go.RowKit Pl
set_option linter.unusedVariables false

set_option maxRecDepth 100000 in
set_option maxHeartbeats 4000000 in
theorem rdo_jal {Y X pc : Nat} {r : Nat → Nat} {W : World} (h : MachIs Y X pc r W) (o : Int) (d u v : Nat) (im : Int) (hd : d < 32) (hu : u < 32) (hv : v < 32) (nx : Nat) (hnx : nx = (pc + 4) % 4294967296) (ho : o = 44) (to : Nat) (hto : to < 4294967296) (jr : IntKind.u32.wrap ((pc : Int) + (nC im : Int)) = (to : Int)) :
    Calls Tryd.prog 45 #[.pointer (some ⟨Y, 0, none⟩), .agg #[.int .i64 o, .int .i64 (d : Nat), .int .i64 (u : Nat), .int .i64 (v : Nat), .int .i32 im]] W fun e w' => e = .returned (.tuple #[.agg #[.int .u32 ((0 : Nat) : Int), .int .u32 ((0 : Nat) : Int), .int .i64 0, .int .u32 ((0 : Nat) : Int), .int .i64 0], .int .i64 (ifA to 0 1)]) ∧ MachIs Y X (ifA to to pc) (ifA to (setR r d ((pc + 4) % 4294967296)) r) w' ∧ Out (· = Y) W w' := by
  have JT := Lib.hid jr
  clear jr
  have q18 : decide (o ≤ 18) = false := by simp; omega
  have q27 : decide (o ≤ 27) = false := by simp; omega
  have q35 : decide (o ≤ 35) = false := by simp; omega
  have q41 : decide (o ≤ 41) = false := by simp; omega
  have q42 : (o == 42) = false := by simp; omega
  have q43 : (o == 43) = false := by simp; omega
  have q44 : (o == 44) = true := by simp; omega
  clear ho
  have H := Lib.hid h
  have hY := h.lt
  have hpc := h.pcb
  have bu := h.rb u
  have bv := h.rb v
  have hu0 : (u : Int) < 32 := by omega
  have hv0 : (v : Int) < 32 := by omega
  have hd0 : (d : Int) < 32 := by omega
  have bu0 : ((r u : Nat) : Int) < 4294967296 := by omega
  have bv0 : ((r v : Nat) : Int) < 4294967296 := by omega
  have HN := Lib.hid (nC_wrap im)
  have hnb := nC_lt im
  have HW := Lib.hid (show IntKind.u32.wrap ((pc : Int) + 4) = (nx : Int) by rw [IntKind.wrap_u32]; omega)
  have nlt : nx < 4294967296 := by omega
  clear hnx
  clear h
  go_enter Tryd.func45, Tryd.ntmps45
  go_upto_region 2 with (fail)
  obtain ⟨g1, g2, g4, g3⟩ := three_alloc W (.cells #[.int .i64 o, .int .i64 (d : Nat), .int .i64 (u : Nat), .int .i64 (v : Nat), .int .i32 im] 85) (.cells #[.int .u32 0, .int .u32 0, .int .i64 0, .int .u32 0, .int .i64 0] 76) (.cells #[.int .u32 0, .int .u32 0, .int .i64 0, .int .u32 0, .int .i64 0] 76)
  have I1 := Lib.hid (insAt_of g1)
  have Z1 := Lib.hid (evAt_of (p := 0) (w := 0) (a := 0) g2)
  have N1 := Lib.hid (evAt_of (p := 0) (w := 0) (a := 0) g4)
  have B1 := Lib.hid g3
  have sz1 : (((W.alloc (.cells #[.int .i64 o, .int .i64 (d : Nat), .int .i64 (u : Nat), .int .i64 (v : Nat), .int .i32 im] 85)).alloc (.cells #[.int .u32 0, .int .u32 0, .int .i64 0, .int .u32 0, .int .i64 0] 76)).alloc (.cells #[.int .u32 0, .int .u32 0, .int .i64 0, .int .u32 0, .int .i64 0] 76)).heap.size = W.heap.size + 3 := by simp
  clear g1 g2 g3 g4
  generalize World.alloc _ _ = W1 at *
  have i2 := I1.out.c2
  have i3 := I1.out.c3
  have i4 := I1.out.c4
  have c1 := (H.out.below B1.out).c1
  have cu := (H.out.below B1.out).c u hu
  have cv := (H.out.below B1.out).c v hv
  have L1 := LikeG.refl W1
  go_region_held3 (fun w' => w'.cell? ⟨W.heap.size, 2, none⟩ = some (.int .i64 (u : Nat)) ∧ w'.cell? ⟨W.heap.size, 3, none⟩ = some (.int .i64 (v : Nat)) ∧ w'.cell? ⟨W.heap.size, 4, none⟩ = some (.int .i32 im) ∧ w'.cell? ⟨Y, 1, none⟩ = some (.int .u32 (pc : Nat)) ∧ w'.cell? ⟨Y, 2 + u, none⟩ = some (.int .u32 (r u : Nat)) ∧ w'.cell? ⟨Y, 2 + v, none⟩ = some (.int .u32 (r v : Nat)))
    (first | (with_reducible assumption) | (exact ⟨i2, i3, i4, c1, cu, cv⟩))
    (fail)
  clear ‹_ ∧ _ ∧ _ ∧ _ ∧ _ ∧ _›
  rw [HN.out, HW.out]
  have lk : LikeG W1 W1.drew := like_drew L1
  have I2 := Lib.hid (I1.out.out (lk.out (fun _ => False)) id)
  have Z2 := Lib.hid (Z1.out.out (lk.out (fun _ => False)) id)
  have N2 := Lib.hid (N1.out.out (lk.out (fun _ => False)) id)
  have B2 := Lib.hid (lk.2 _ _ B1.out)
  have sz2 : W1.drew.heap.size = W.heap.size + 3 := sz1
  clear lk I1 Z1 N1 B1 i2 i3 i4 c1 cu cv L1 sz1
  generalize World.drew W1 = W2 at *
  have i0 := I2.out.c0
  have i1 := I2.out.c1
  have n0 := N2.out.c0
  have n1 := N2.out.c1
  have n2 := N2.out.c2
  have n3 := N2.out.c3
  have n4 := N2.out.c4
  have c1 := (H.out.below B2.out).c1
  go_wp2_with fail
  have JUMP := Lib.hid (fun W' (hm : MachIs Y X pc r W') => rcjump_any hm to d hto hd)
  have hbD := Lib.hid (show Below W.heap.size W W2.drew from B2.out.drew)
  have hED := Lib.hid (N2.out.out ((like_drew (LikeG.refl W2)).out (fun _ => False)) id)
  have hZD := Lib.hid (Z2.out.out ((like_drew (LikeG.refl W2)).out (fun _ => False)) id)
  go_region_with ((first | (go_at_call 68; rw [JT.out]; (with_reducible refine (JUMP.out _ (H.out.below hbD.out)).mono ?_); rintro e w6 ⟨rfl, hm, ho⟩; have Z6 := Lib.hid (hZD.out.out ho (by omega)); have E6 := Lib.hid (hED.out.out ho (by omega)); have O6 := Lib.hid ((Out.of_below (· = Y) hbD.out).trans ho); have M6 := Lib.hid hm; clear hm ho hbD hZD hED i0 i1 c1 n0 n1 n2 n3 n4 I2 Z2 N2 B2; have z0 := Z6.out.c0; have zf0 := Z6.out.f 0 (by omega); have e0 := E6.out.c0; have z1 := Z6.out.c1; have zf1 := Z6.out.f 1 (by omega); have e1 := E6.out.c1; have z2 := Z6.out.c2; have zf2 := Z6.out.f 2 (by omega); have e2 := E6.out.c2; have z3 := Z6.out.c3; have zf3 := Z6.out.f 3 (by omega); have e3 := E6.out.c3; have z4 := Z6.out.c4; have zf4 := Z6.out.f 4 (by omega); have e4 := E6.out.c4; skip)))
  all_goals
    go_wp2_with fail
    generalize hV : World.setCell _ ⟨W.heap.size + 1, 4, none⟩ _ = V3
    have hV' : setEv w6 (W.heap.size + 1) 0 0 0 0 0 = V3 := hV
    obtain ⟨ev, m4, o4⟩ := fin_ev hV' M6.out Z6.out O6.out hY (by omega)
    clear hV hV' z0 z1 z2 z3 z4 zf0 zf1 zf2 zf3 zf4
    have x0 := ev.c0
    have x1 := ev.c1
    have x2 := ev.c2
    have x3 := ev.c3
    have x4 := ev.c4
    refine bodyPost_ret (v := .tuple #[.agg #[.int .u32 ((0 : Nat) : Int), .int .u32 ((0 : Nat) : Int), .int .i64 0, .int .u32 ((0 : Nat) : Int), .int .i64 0], .int .i64 (ifA to 0 1)]) (by simp [results, Tryd.results45, go_sem, x0, x1, x2, x3, x4]) rfl ⟨rfl, m4, o4⟩
end Go.Proofs.YtidpaijnnkainaaDoor
