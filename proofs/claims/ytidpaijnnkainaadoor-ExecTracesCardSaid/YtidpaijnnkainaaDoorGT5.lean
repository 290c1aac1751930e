/- The document's machine: loads, stores, ecall, ebreak. -/
import Derived.Test.YtidpaijnnkainaaDoorGS4
namespace Go.Proofs.YtidpaijnnkainaaDoor
open Go Go.RowKit Pl
set_option linter.unusedVariables false

set_option maxRecDepth 100000 in
set_option maxHeartbeats 4000000 in
theorem rdo_mem {Y X pc : Nat} {r : Nat → Nat} {W : World} (h : MachIs Y X pc r W) (o : Int) (d u v : Nat) (im : Int) (hd : d < 32) (hu : u < 32) (hv : v < 32) (nx : Nat) (hnx : nx = (pc + 4) % 4294967296) (ho : 28 ≤ o ∧ o ≤ 35) (at_ : Nat) (hat : ((r u : Int) + (nC im : Int)) % 4294967296 = (at_ : Int)) (k : Int) (a : Nat) (s t : Int) {P : World → World → Prop} (hP : ∀ W' w', P W' w' → Below W.heap.size W W' → ∀ j, W.heap.size ≤ j → j < W'.heap.size → w'.heap[j]? = W'.heap[j]? ∧ W'.heap.size ≤ w'.heap.size)
    (hm : ∀ W', Below W.heap.size W W' → Calls Tryd.prog 66 #[.pointer (some ⟨Y, 0, none⟩), .agg #[.int .i64 o, .int .i64 (d : Nat), .int .i64 (u : Nat), .int .i64 (v : Nat), .int .i32 im], .int .u32 (at_ : Nat)] W' fun e w' => e = .returned (.tuple #[.agg #[.int .u32 ((0 : Nat) : Int), .int .u32 ((0 : Nat) : Int), .int .i64 k, .int .u32 (a : Nat), .int .i64 s], .int .i64 t]) ∧ P W' w') :
    Calls Tryd.prog 45 #[.pointer (some ⟨Y, 0, none⟩), .agg #[.int .i64 o, .int .i64 (d : Nat), .int .i64 (u : Nat), .int .i64 (v : Nat), .int .i32 im]] W fun e w' => e = .returned (.tuple #[.agg #[.int .u32 ((0 : Nat) : Int), .int .u32 ((0 : Nat) : Int), .int .i64 k, .int .u32 (a : Nat), .int .i64 s], .int .i64 t]) ∧ ∃ W5 w6, Below W.heap.size W W5 ∧ W.heap.size + 3 ≤ W5.heap.size ∧ P W5 w6 ∧ Out (· = W.heap.size + 1) w6 w' := by
  have HP := Lib.hid hP
  have HM := Lib.hid hm
  have HA := Lib.hid hat
  clear hP hm hat
  have q18 : decide (o ≤ 18) = false := by simp; omega
  have q27 : decide (o ≤ 27) = false := by simp; omega
  have q35 : decide (o ≤ 35) = true := by simp; omega
  clear ho
  have H := Lib.hid h
  have hY := h.lt
  have hpc := h.pcb
  have bu := h.rb u
  have bv := h.rb v
  have hu0 : (u : Int) < 32 := by omega
  have hv0 : (v : Int) < 32 := by omega
  have hd0 : (d : Int) < 32 := by omega
  have bu0 : ((r u : Nat) : Int) < 4294967296 := by omega
  have bv0 : ((r v : Nat) : Int) < 4294967296 := by omega
  have HN := Lib.hid (nC_wrap im)
  have hnb := nC_lt im
  have HW := Lib.hid (show IntKind.u32.wrap ((pc : Int) + 4) = (nx : Int) by rw [IntKind.wrap_u32]; omega)
  have nlt : nx < 4294967296 := by omega
  clear hnx
  clear h
  go_enter Tryd.func45, Tryd.ntmps45
  go_upto_region 2 with (fail)
  obtain ⟨g1, g2, g4, g3⟩ := three_alloc W (.cells #[.int .i64 o, .int .i64 (d : Nat), .int .i64 (u : Nat), .int .i64 (v : Nat), .int .i32 im] 85) (.cells #[.int .u32 0, .int .u32 0, .int .i64 0, .int .u32 0, .int .i64 0] 76) (.cells #[.int .u32 0, .int .u32 0, .int .i64 0, .int .u32 0, .int .i64 0] 76)
  have I1 := Lib.hid (insAt_of g1)
  have Z1 := Lib.hid (evAt_of (p := 0) (w := 0) (a := 0) g2)
  have N1 := Lib.hid (evAt_of (p := 0) (w := 0) (a := 0) g4)
  have B1 := Lib.hid g3
  have sz1 : (((W.alloc (.cells #[.int .i64 o, .int .i64 (d : Nat), .int .i64 (u : Nat), .int .i64 (v : Nat), .int .i32 im] 85)).alloc (.cells #[.int .u32 0, .int .u32 0, .int .i64 0, .int .u32 0, .int .i64 0] 76)).alloc (.cells #[.int .u32 0, .int .u32 0, .int .i64 0, .int .u32 0, .int .i64 0] 76)).heap.size = W.heap.size + 3 := by simp
  clear g1 g2 g3 g4
  generalize World.alloc _ _ = W1 at *
  have i2 := I1.out.c2
  have i3 := I1.out.c3
  have i4 := I1.out.c4
  have c1 := (H.out.below B1.out).c1
  have cu := (H.out.below B1.out).c u hu
  have cv := (H.out.below B1.out).c v hv
  have L1 := LikeG.refl W1
  go_region_held3 (fun w' => w'.cell? ⟨W.heap.size, 2, none⟩ = some (.int .i64 (u : Nat)) ∧ w'.cell? ⟨W.heap.size, 3, none⟩ = some (.int .i64 (v : Nat)) ∧ w'.cell? ⟨W.heap.size, 4, none⟩ = some (.int .i32 im) ∧ w'.cell? ⟨Y, 1, none⟩ = some (.int .u32 (pc : Nat)) ∧ w'.cell? ⟨Y, 2 + u, none⟩ = some (.int .u32 (r u : Nat)) ∧ w'.cell? ⟨Y, 2 + v, none⟩ = some (.int .u32 (r v : Nat)))
    (first | (with_reducible assumption) | (exact ⟨i2, i3, i4, c1, cu, cv⟩))
    (fail)
  clear ‹_ ∧ _ ∧ _ ∧ _ ∧ _ ∧ _›
  rw [HN.out, HW.out]
  have lk : LikeG W1 W1.drew := like_drew L1
  have I2 := Lib.hid (I1.out.out (lk.out (fun _ => False)) id)
  have Z2 := Lib.hid (Z1.out.out (lk.out (fun _ => False)) id)
  have N2 := Lib.hid (N1.out.out (lk.out (fun _ => False)) id)
  have B2 := Lib.hid (lk.2 _ _ B1.out)
  have sz2 : W1.drew.heap.size = W.heap.size + 3 := sz1
  clear lk I1 Z1 N1 B1 i2 i3 i4 c1 cu cv L1 sz1
  generalize World.drew W1 = W2 at *
  have i0 := I2.out.c0
  have i1 := I2.out.c1
  have n0 := N2.out.c0
  have n1 := N2.out.c1
  have n2 := N2.out.c2
  have n3 := N2.out.c3
  have n4 := N2.out.c4
  have i2 := I2.out.c2
  have i3 := I2.out.c3
  have i4 := I2.out.c4
  go_wp2_with fail
  rw [HA.out]
  refine (HM.out _ B2.out).mono ?_
  rintro e w6 ⟨rfl, hp⟩
  have HQ := Lib.hid hp
  have Z6 : EvAt (W.heap.size + 1) 0 0 0 0 0 w6 := by
    obtain ⟨q1, q2⟩ := HP.out _ _ hp B2.out (W.heap.size + 1) (by omega) (by omega)
    have k := Z2.out
    exact ⟨(World.cell?_of_block q1).trans k.c0, (World.cell?_of_block q1).trans k.c1, (World.cell?_of_block q1).trans k.c2, (World.cell?_of_block q1).trans k.c3, (World.cell?_of_block q1).trans k.c4, fun j hj => (World.frozen?_of_block (a := ⟨W.heap.size + 1, j, none⟩) q1).trans (k.f j hj), by omega⟩
  have Z7 := Lib.hid Z6
  clear hp Z6 HP HM i0 i1 i2 i3 i4 n0 n1 n2 n3 n4
  have z0 := Z7.out.c0
  have z1 := Z7.out.c1
  have z2 := Z7.out.c2
  have z3 := Z7.out.c3
  have z4 := Z7.out.c4
  have zf0 := Z7.out.f 0 (by omega)
  have zf1 := Z7.out.f 1 (by omega)
  have zf2 := Z7.out.f 2 (by omega)
  have zf3 := Z7.out.f 3 (by omega)
  have zf4 := Z7.out.f 4 (by omega)
  go_wp2_with fail
  generalize hV : World.setCell _ ⟨W.heap.size + 1, 4, none⟩ _ = V
  have hV' : setEv w6 (W.heap.size + 1) 0 0 k a s = V := hV
  have ev := setEv_at Z7.out 0 0 k a s
  have o4 := setEv_out w6 (W.heap.size + 1) 0 0 k a s
  rw [hV'] at ev o4
  clear hV hV' z0 z1 z2 z3 z4 zf0 zf1 zf2 zf3 zf4
  have x0 := ev.c0
  have x1 := ev.c1
  have x2 := ev.c2
  have x3 := ev.c3
  have x4 := ev.c4
  refine bodyPost_ret (v := .tuple #[.agg #[.int .u32 ((0 : Nat) : Int), .int .u32 ((0 : Nat) : Int), .int .i64 k, .int .u32 (a : Nat), .int .i64 s], .int .i64 t]) (by simp [results, Tryd.results45, go_sem, x0, x1, x2, x3, x4]) rfl ⟨rfl, W2, w6, B2.out, by omega, HQ.out, o4⟩
set_option maxRecDepth 100000 in
set_option maxHeartbeats 4000000 in
theorem rdo_ecall {Y X pc : Nat} {r : Nat → Nat} {W : World} (h : MachIs Y X pc r W) (o : Int) (d u v : Nat) (im : Int) (hd : d < 32) (hu : u < 32) (hv : v < 32) (nx : Nat) (hnx : nx = (pc + 4) % 4294967296) (ho : o = 47) :
    Calls Tryd.prog 45 #[.pointer (some ⟨Y, 0, none⟩), .agg #[.int .i64 o, .int .i64 (d : Nat), .int .i64 (u : Nat), .int .i64 (v : Nat), .int .i32 im]] W fun e w' => e = .returned (.tuple #[.agg #[.int .u32 ((0 : Nat) : Int), .int .u32 ((0 : Nat) : Int), .int .i64 0, .int .u32 ((0 : Nat) : Int), .int .i64 0], .int .i64 6]) ∧ Below W.heap.size W w' := by
  have q18 : decide (o ≤ 18) = false := by simp; omega
  have q27 : decide (o ≤ 27) = false := by simp; omega
  have q35 : decide (o ≤ 35) = false := by simp; omega
  have q41 : decide (o ≤ 41) = false := by simp; omega
  have q42 : (o == 42) = false := by simp; omega
  have q43 : (o == 43) = false := by simp; omega
  have q44 : (o == 44) = false := by simp; omega
  have q45 : (o == 45) = false := by simp; omega
  have q46 : (o == 46) = false := by simp; omega
  have q47 : (o == 47) = true := by simp; omega
  clear ho
  have H := Lib.hid h
  have hY := h.lt
  have hpc := h.pcb
  have bu := h.rb u
  have bv := h.rb v
  have hu0 : (u : Int) < 32 := by omega
  have hv0 : (v : Int) < 32 := by omega
  have hd0 : (d : Int) < 32 := by omega
  have bu0 : ((r u : Nat) : Int) < 4294967296 := by omega
  have bv0 : ((r v : Nat) : Int) < 4294967296 := by omega
  have HN := Lib.hid (nC_wrap im)
  have hnb := nC_lt im
  have HW := Lib.hid (show IntKind.u32.wrap ((pc : Int) + 4) = (nx : Int) by rw [IntKind.wrap_u32]; omega)
  have nlt : nx < 4294967296 := by omega
  clear hnx
  clear h
  go_enter Tryd.func45, Tryd.ntmps45
  go_upto_region 2 with (fail)
  obtain ⟨g1, g2, g4, g3⟩ := three_alloc W (.cells #[.int .i64 o, .int .i64 (d : Nat), .int .i64 (u : Nat), .int .i64 (v : Nat), .int .i32 im] 85) (.cells #[.int .u32 0, .int .u32 0, .int .i64 0, .int .u32 0, .int .i64 0] 76) (.cells #[.int .u32 0, .int .u32 0, .int .i64 0, .int .u32 0, .int .i64 0] 76)
  have I1 := Lib.hid (insAt_of g1)
  have Z1 := Lib.hid (evAt_of (p := 0) (w := 0) (a := 0) g2)
  have N1 := Lib.hid (evAt_of (p := 0) (w := 0) (a := 0) g4)
  have B1 := Lib.hid g3
  have sz1 : (((W.alloc (.cells #[.int .i64 o, .int .i64 (d : Nat), .int .i64 (u : Nat), .int .i64 (v : Nat), .int .i32 im] 85)).alloc (.cells #[.int .u32 0, .int .u32 0, .int .i64 0, .int .u32 0, .int .i64 0] 76)).alloc (.cells #[.int .u32 0, .int .u32 0, .int .i64 0, .int .u32 0, .int .i64 0] 76)).heap.size = W.heap.size + 3 := by simp
  clear g1 g2 g3 g4
  generalize World.alloc _ _ = W1 at *
  have i2 := I1.out.c2
  have i3 := I1.out.c3
  have i4 := I1.out.c4
  have c1 := (H.out.below B1.out).c1
  have cu := (H.out.below B1.out).c u hu
  have cv := (H.out.below B1.out).c v hv
  have L1 := LikeG.refl W1
  go_region_held3 (fun w' => w'.cell? ⟨W.heap.size, 2, none⟩ = some (.int .i64 (u : Nat)) ∧ w'.cell? ⟨W.heap.size, 3, none⟩ = some (.int .i64 (v : Nat)) ∧ w'.cell? ⟨W.heap.size, 4, none⟩ = some (.int .i32 im) ∧ w'.cell? ⟨Y, 1, none⟩ = some (.int .u32 (pc : Nat)) ∧ w'.cell? ⟨Y, 2 + u, none⟩ = some (.int .u32 (r u : Nat)) ∧ w'.cell? ⟨Y, 2 + v, none⟩ = some (.int .u32 (r v : Nat)))
    (first | (with_reducible assumption) | (exact ⟨i2, i3, i4, c1, cu, cv⟩))
    (fail)
  clear ‹_ ∧ _ ∧ _ ∧ _ ∧ _ ∧ _›
  rw [HN.out, HW.out]
  have lk : LikeG W1 W1.drew := like_drew L1
  have I2 := Lib.hid (I1.out.out (lk.out (fun _ => False)) id)
  have Z2 := Lib.hid (Z1.out.out (lk.out (fun _ => False)) id)
  have N2 := Lib.hid (N1.out.out (lk.out (fun _ => False)) id)
  have B2 := Lib.hid (lk.2 _ _ B1.out)
  have sz2 : W1.drew.heap.size = W.heap.size + 3 := sz1
  clear lk I1 Z1 N1 B1 i2 i3 i4 c1 cu cv L1 sz1
  generalize World.drew W1 = W2 at *
  have i0 := I2.out.c0
  have i1 := I2.out.c1
  have n0 := N2.out.c0
  have n1 := N2.out.c1
  have n2 := N2.out.c2
  have n3 := N2.out.c3
  have n4 := N2.out.c4
  have z0 := Z2.out.c0
  have z1 := Z2.out.c1
  have z2 := Z2.out.c2
  have z3 := Z2.out.c3
  have z4 := Z2.out.c4
  have zf0 := Z2.out.f 0 (by omega)
  have zf1 := Z2.out.f 1 (by omega)
  have zf2 := Z2.out.f 2 (by omega)
  have zf3 := Z2.out.f 3 (by omega)
  have zf4 := Z2.out.f 4 (by omega)
  go_wp2_with fail
  generalize hV : World.setCell _ ⟨W.heap.size + 1, 4, none⟩ _ = V
  have hV' : setEv W2 (W.heap.size + 1) 0 0 0 0 0 = V := hV
  have ev := setEv_at Z2.out 0 0 0 0 0
  have o4 := setEv_out W2 (W.heap.size + 1) 0 0 0 0 0
  rw [hV'] at ev o4
  clear hV hV' z0 z1 z2 z3 z4 zf0 zf1 zf2 zf3 zf4
  have x0 := ev.c0
  have x1 := ev.c1
  have x2 := ev.c2
  have x3 := ev.c3
  have x4 := ev.c4
  refine bodyPost_ret (v := .tuple #[.agg #[.int .u32 ((0 : Nat) : Int), .int .u32 ((0 : Nat) : Int), .int .i64 0, .int .u32 ((0 : Nat) : Int), .int .i64 0], .int .i64 6]) (by simp [results, Tryd.results45, go_sem, x0, x1, x2, x3, x4]) rfl ⟨rfl, o4.below B2.out (Nat.le_refl _) (fun j e => by subst e; omega)⟩
set_option maxRecDepth 100000 in
set_option maxHeartbeats 4000000 in
theorem rdo_ebreak {Y X pc : Nat} {r : Nat → Nat} {W : World} (h : MachIs Y X pc r W) (o : Int) (d u v : Nat) (im : Int) (hd : d < 32) (hu : u < 32) (hv : v < 32) (nx : Nat) (hnx : nx = (pc + 4) % 4294967296) (ho : o = 48) :
    Calls Tryd.prog 45 #[.pointer (some ⟨Y, 0, none⟩), .agg #[.int .i64 o, .int .i64 (d : Nat), .int .i64 (u : Nat), .int .i64 (v : Nat), .int .i32 im]] W fun e w' => e = .returned (.tuple #[.agg #[.int .u32 ((0 : Nat) : Int), .int .u32 ((0 : Nat) : Int), .int .i64 0, .int .u32 ((0 : Nat) : Int), .int .i64 0], .int .i64 7]) ∧ Below W.heap.size W w' := by
  have q18 : decide (o ≤ 18) = false := by simp; omega
  have q27 : decide (o ≤ 27) = false := by simp; omega
  have q35 : decide (o ≤ 35) = false := by simp; omega
  have q41 : decide (o ≤ 41) = false := by simp; omega
  have q42 : (o == 42) = false := by simp; omega
  have q43 : (o == 43) = false := by simp; omega
  have q44 : (o == 44) = false := by simp; omega
  have q45 : (o == 45) = false := by simp; omega
  have q46 : (o == 46) = false := by simp; omega
  have q47 : (o == 47) = false := by simp; omega
  clear ho
  have H := Lib.hid h
  have hY := h.lt
  have hpc := h.pcb
  have bu := h.rb u
  have bv := h.rb v
  have hu0 : (u : Int) < 32 := by omega
  have hv0 : (v : Int) < 32 := by omega
  have hd0 : (d : Int) < 32 := by omega
  have bu0 : ((r u : Nat) : Int) < 4294967296 := by omega
  have bv0 : ((r v : Nat) : Int) < 4294967296 := by omega
  have HN := Lib.hid (nC_wrap im)
  have hnb := nC_lt im
  have HW := Lib.hid (show IntKind.u32.wrap ((pc : Int) + 4) = (nx : Int) by rw [IntKind.wrap_u32]; omega)
  have nlt : nx < 4294967296 := by omega
  clear hnx
  clear h
  go_enter Tryd.func45, Tryd.ntmps45
  go_upto_region 2 with (fail)
  obtain ⟨g1, g2, g4, g3⟩ := three_alloc W (.cells #[.int .i64 o, .int .i64 (d : Nat), .int .i64 (u : Nat), .int .i64 (v : Nat), .int .i32 im] 85) (.cells #[.int .u32 0, .int .u32 0, .int .i64 0, .int .u32 0, .int .i64 0] 76) (.cells #[.int .u32 0, .int .u32 0, .int .i64 0, .int .u32 0, .int .i64 0] 76)
  have I1 := Lib.hid (insAt_of g1)
  have Z1 := Lib.hid (evAt_of (p := 0) (w := 0) (a := 0) g2)
  have N1 := Lib.hid (evAt_of (p := 0) (w := 0) (a := 0) g4)
  have B1 := Lib.hid g3
  have sz1 : (((W.alloc (.cells #[.int .i64 o, .int .i64 (d : Nat), .int .i64 (u : Nat), .int .i64 (v : Nat), .int .i32 im] 85)).alloc (.cells #[.int .u32 0, .int .u32 0, .int .i64 0, .int .u32 0, .int .i64 0] 76)).alloc (.cells #[.int .u32 0, .int .u32 0, .int .i64 0, .int .u32 0, .int .i64 0] 76)).heap.size = W.heap.size + 3 := by simp
  clear g1 g2 g3 g4
  generalize World.alloc _ _ = W1 at *
  have i2 := I1.out.c2
  have i3 := I1.out.c3
  have i4 := I1.out.c4
  have c1 := (H.out.below B1.out).c1
  have cu := (H.out.below B1.out).c u hu
  have cv := (H.out.below B1.out).c v hv
  have L1 := LikeG.refl W1
  go_region_held3 (fun w' => w'.cell? ⟨W.heap.size, 2, none⟩ = some (.int .i64 (u : Nat)) ∧ w'.cell? ⟨W.heap.size, 3, none⟩ = some (.int .i64 (v : Nat)) ∧ w'.cell? ⟨W.heap.size, 4, none⟩ = some (.int .i32 im) ∧ w'.cell? ⟨Y, 1, none⟩ = some (.int .u32 (pc : Nat)) ∧ w'.cell? ⟨Y, 2 + u, none⟩ = some (.int .u32 (r u : Nat)) ∧ w'.cell? ⟨Y, 2 + v, none⟩ = some (.int .u32 (r v : Nat)))
    (first | (with_reducible assumption) | (exact ⟨i2, i3, i4, c1, cu, cv⟩))
    (fail)
  clear ‹_ ∧ _ ∧ _ ∧ _ ∧ _ ∧ _›
  rw [HN.out, HW.out]
  have lk : LikeG W1 W1.drew := like_drew L1
  have I2 := Lib.hid (I1.out.out (lk.out (fun _ => False)) id)
  have Z2 := Lib.hid (Z1.out.out (lk.out (fun _ => False)) id)
  have N2 := Lib.hid (N1.out.out (lk.out (fun _ => False)) id)
  have B2 := Lib.hid (lk.2 _ _ B1.out)
  have sz2 : W1.drew.heap.size = W.heap.size + 3 := sz1
  clear lk I1 Z1 N1 B1 i2 i3 i4 c1 cu cv L1 sz1
  generalize World.drew W1 = W2 at *
  have i0 := I2.out.c0
  have i1 := I2.out.c1
  have n0 := N2.out.c0
  have n1 := N2.out.c1
  have n2 := N2.out.c2
  have n3 := N2.out.c3
  have n4 := N2.out.c4
  have z0 := Z2.out.c0
  have z1 := Z2.out.c1
  have z2 := Z2.out.c2
  have z3 := Z2.out.c3
  have z4 := Z2.out.c4
  have zf0 := Z2.out.f 0 (by omega)
  have zf1 := Z2.out.f 1 (by omega)
  have zf2 := Z2.out.f 2 (by omega)
  have zf3 := Z2.out.f 3 (by omega)
  have zf4 := Z2.out.f 4 (by omega)
  go_wp2_with fail
  generalize hV : World.setCell _ ⟨W.heap.size + 1, 4, none⟩ _ = V
  have hV' : setEv W2 (W.heap.size + 1) 0 0 0 0 0 = V := hV
  have ev := setEv_at Z2.out 0 0 0 0 0
  have o4 := setEv_out W2 (W.heap.size + 1) 0 0 0 0 0
  rw [hV'] at ev o4
  clear hV hV' z0 z1 z2 z3 z4 zf0 zf1 zf2 zf3 zf4
  have x0 := ev.c0
  have x1 := ev.c1
  have x2 := ev.c2
  have x3 := ev.c3
  have x4 := ev.c4
  refine bodyPost_ret (v := .tuple #[.agg #[.int .u32 ((0 : Nat) : Int), .int .u32 ((0 : Nat) : Int), .int .i64 0, .int .u32 ((0 : Nat) : Int), .int .i64 0], .int .i64 7]) (by simp [results, Tryd.results45, go_sem, x0, x1, x2, x3, x4]) rfl ⟨rfl, o4.below B2.out (Nat.le_refl _) (fun j e => by subst e; omega)⟩
end Go.Proofs.YtidpaijnnkainaaDoor
