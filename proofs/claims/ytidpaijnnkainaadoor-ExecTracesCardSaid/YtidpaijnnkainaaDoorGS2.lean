/- The document's machine: loads without a sign. -/
import Derived.Test.YtidpaijnnkainaaDoorGR
namespace Go.Proofs.YtidpaijnnkainaaDoor
open Go Go.RowKit Pl
set_option linter.unusedVariables false

set_option maxRecDepth 100000 in
set_option maxHeartbeats 4000000 in
theorem rmem_load_plain {Y X pc : Nat} {r : Nat → Nat} {W : World} (h : MachIs Y X pc r W) (o : Int) (d u v : Nat) (im : Int) (ho : 30 ≤ o ∧ o ≤ 32) (hd : d < 32) (at_ : Nat) (x : Nat) (hy : x < 4294967296)
    (hl : ∀ W', Below W.heap.size W W' → Calls Tryd.prog 96 #[.pointer (some ⟨X, 0, none⟩), .int .u32 (at_ : Nat), .int .i64 (sizeC o : Nat)] W' (LoadPost W' x 0)) :
    Calls Tryd.prog 66 #[.pointer (some ⟨Y, 0, none⟩), .agg #[.int .i64 o, .int .i64 (d : Nat), .int .i64 (u : Nat), .int .i64 (v : Nat), .int .i32 im], .int .u32 (at_ : Nat)] W fun e w' => e = .returned (.tuple #[.agg #[.int .u32 ((0 : Nat) : Int), .int .u32 ((0 : Nat) : Int), .int .i64 1, .int .u32 (at_ : Nat), .int .i64 (sizeC o : Nat)], .int .i64 0]) ∧ MachIs Y X ((pc + 4) % 4294967296) (setR r d x) w' ∧ Out (· = Y) W w' := by
  obtain ⟨j, hj, hj8⟩ : ∃ j : Nat, o - 28 = (j : Int) ∧ j < 8 := ⟨(o - 28).toNat, by omega, by omega⟩
  have ROW := row8 o j hj hj8
  have RO := Lib.hid ROW
  have hY := h.lt
  have H := Lib.hid h
  have hpc := h.pcb
  have LD := Lib.hid hl
  have SET := Lib.hid (fun W' (hm : MachIs Y X pc r W') => rcset_any hm d x hd hy ((pc + 4) % 4294967296) (Nat.mod_lt _ (by decide)))
  have HW := Lib.hid (show IntKind.u32.wrap ((pc : Int) + 4) = (((pc + 4) % 4294967296 : Nat) : Int) by rw [IntKind.wrap_u32]; omega)
  have q0 : decide (o ≥ 33) = false := by simp; omega
  have q1 : decide (33 ≤ o) = false := by simp; omega
  have p0 : decide (o < 30) = false := by simp; omega
  have hj9 : (j : Int) < 8 := by omega
  clear h hl ho
  go_enter Tryd.func66, Tryd.ntmps66
  go_upto_region 2 with (fail)
  obtain ⟨g1, g2, g4, g3⟩ := three_alloc W (.cells #[.int .i64 o, .int .i64 (d : Nat), .int .i64 (u : Nat), .int .i64 (v : Nat), .int .i32 im] 85) (.cells #[.int .u32 0, .int .u32 0, .int .i64 0, .int .u32 0, .int .i64 0] 76) (.cells #[.int .i64 1, .int .i64 2, .int .i64 4, .int .i64 1, .int .i64 2, .int .i64 1, .int .i64 2, .int .i64 4] 3)
  have I1 := Lib.hid (insAt_of g1)
  have Z1 := Lib.hid (evAt_of (p := 0) (w := 0) (a := 0) g2)
  have B1 := Lib.hid g3
  have rc := (cell_of_row _ (W.heap.size + 2) j _ _ _ g4).trans ROW
  have sz1 : (((W.alloc (.cells #[.int .i64 o, .int .i64 (d : Nat), .int .i64 (u : Nat), .int .i64 (v : Nat), .int .i32 im] 85)).alloc (.cells #[.int .u32 0, .int .u32 0, .int .i64 0, .int .u32 0, .int .i64 0] 76)).alloc (.cells #[.int .i64 1, .int .i64 2, .int .i64 4, .int .i64 1, .int .i64 2, .int .i64 1, .int .i64 2, .int .i64 4] 3)).heap.size = W.heap.size + 3 := by simp
  clear g1 g2 g3 g4 ROW
  generalize World.alloc _ _ = W1 at *
  have i0 := I1.out.c0
  have c0 := (H.out.below B1.out).c0
  go_upto_region 4 with (fail)
  have E4 := Lib.hid (evAt_of (p := 0) (w := 0) (a := at_) (heap_alloc_new W1 (.cells #[.int .u32 0, .int .u32 0, .int .i64 2, .int .u32 (at_ : Nat), .int .i64 (sizeC o : Nat)] 76)))
  have B4 := Lib.hid (B1.out.alloc B1.out.size (.cells #[.int .u32 0, .int .u32 0, .int .i64 2, .int .u32 (at_ : Nat), .int .i64 (sizeC o : Nat)] 76))
  have Z4 := Lib.hid (Z1.out.out (Out.of_below (fun _ => False) ((Below.refl W1.heap.size W1).alloc (Nat.le_refl _) (.cells #[.int .u32 0, .int .u32 0, .int .i64 2, .int .u32 (at_ : Nat), .int .i64 (sizeC o : Nat)] 76))) id)
  have I4 := Lib.hid (I1.out.out (Out.of_below (fun _ => False) ((Below.refl W1.heap.size W1).alloc (Nat.le_refl _) (.cells #[.int .u32 0, .int .u32 0, .int .i64 2, .int .u32 (at_ : Nat), .int .i64 (sizeC o : Nat)] 76))) id)
  have sz4 : (W1.alloc (.cells #[.int .u32 0, .int .u32 0, .int .i64 2, .int .u32 (at_ : Nat), .int .i64 (sizeC o : Nat)] 76)).heap.size = W.heap.size + 4 := by simp; omega
  rw [sz1] at E4
  clear I1 Z1 rc i0 c0
  generalize World.alloc _ _ = W4 at *
  have i0 := I4.out.c0
  have c0 := (H.out.below B4.out).c0
  go_wp2_with fail
  refine (LD.out W4 B4.out).mono ?_
  rintro e w5 ⟨rfl, hlk⟩
  have Z5 := Lib.hid (Z4.out.out (hlk.out (fun _ => False)) id)
  have E5 := Lib.hid (E4.out.out (hlk.out (fun _ => False)) id)
  have I5 := Lib.hid (I4.out.out (hlk.out (fun _ => False)) id)
  have B5 := Lib.hid (hlk.2 _ _ B4.out)
  clear Z4 B4 E4 I4 LD hlk i0 c0
  have i0 := I5.out.c0
  have e2 := E5.out.c2
  have ef2 := E5.out.f 2 (by omega)
  go_upto_region 15 with (fail)
  generalize hV : World.setCell _ ⟨W.heap.size + 3, 2, none⟩ _ = V
  have oV := out_cell (W.heap.size + 3) 2 (.int .i64 1) w5
  have E6 : EvAt (W.heap.size + 3) 0 0 1 at_ (sizeC o : Nat) (w5.setCell ⟨W.heap.size + 3, 2, none⟩ (.int .i64 1)) := by
    have k := E5.out
    exact ⟨by rw [cset_ne (by decide)]; exact k.c0, by rw [cset_ne (by decide)]; exact k.c1, World.cell?_setCell_same _ _ _ k.c2, by rw [cset_ne (by decide)]; exact k.c3, by rw [cset_ne (by decide)]; exact k.c4, fun j hj => by rw [World.frozen?_setCell]; exact k.f j hj, by rw [World.size_setCell]; exact k.lt⟩
  have hV2 : w5.setCell ⟨W.heap.size + 3, 2, none⟩ (.int .i64 1) = V := hV
  rw [hV2] at E6 oV
  have BV := Lib.hid (oV.below B5.out (Nat.le_refl _) (fun j e => by subst e; omega))
  have EV := Lib.hid E6
  have IV := Lib.hid (I5.out.out oV (by omega))
  have ZV := Lib.hid (Z5.out.out oV (by omega))
  clear hV hV2 E6 oV E5 I5 Z5 B5 i0 e2 ef2
  have i1 := IV.out.c1
  have c1 := (H.out.below BV.out).c1
  have e0 := EV.out.c0
  have e1 := EV.out.c1
  have e2 := EV.out.c2
  have e3 := EV.out.c3
  have e4 := EV.out.c4
  go_wp2_with fail
  have hbD := Lib.hid (show Below W.heap.size W V.drew from BV.out.drew)
  have hED := Lib.hid (EV.out.out ((like_drew (LikeG.refl V)).out (fun _ => False)) id)
  have hZD := Lib.hid (ZV.out.out ((like_drew (LikeG.refl V)).out (fun _ => False)) id)
  go_region_with ((first | (go_at_call 64; rw [HW.out]; (with_reducible refine (SET.out _ (H.out.below hbD.out)).mono ?_); rintro e w6 ⟨rfl, hm, ho⟩; have Z6 := Lib.hid (hZD.out.out ho (by omega)); have E6 := Lib.hid (hED.out.out ho (by omega)); have O6 := Lib.hid ((Out.of_below (· = Y) hbD.out).trans ho); have M6 := Lib.hid hm; clear hm ho SET hbD hZD hED i1 c1 e0 e1 e2 e3 e4 EV IV ZV BV; have z0 := Z6.out.c0; have zf0 := Z6.out.f 0 (by omega); have e0 := E6.out.c0; have z1 := Z6.out.c1; have zf1 := Z6.out.f 1 (by omega); have e1 := E6.out.c1; have z2 := Z6.out.c2; have zf2 := Z6.out.f 2 (by omega); have e2 := E6.out.c2; have z3 := Z6.out.c3; have zf3 := Z6.out.f 3 (by omega); have e3 := E6.out.c3; have z4 := Z6.out.c4; have zf4 := Z6.out.f 4 (by omega); have e4 := E6.out.c4; skip)))
  all_goals
    go_wp2_with fail
    generalize hV : World.setCell _ ⟨W.heap.size + 1, 4, none⟩ _ = V3
    have hV' : setEv w6 (W.heap.size + 1) 0 0 1 at_ (sizeC o : Nat) = V3 := hV
    obtain ⟨ev, m4, o4⟩ := fin_ev hV' M6.out Z6.out O6.out hY (by omega)
    clear hV hV' z0 z1 z2 z3 z4 zf0 zf1 zf2 zf3 zf4
    have x0 := ev.c0
    have x1 := ev.c1
    have x2 := ev.c2
    have x3 := ev.c3
    have x4 := ev.c4
    refine bodyPost_ret (v := .tuple #[.agg #[.int .u32 ((0 : Nat) : Int), .int .u32 ((0 : Nat) : Int), .int .i64 1, .int .u32 (at_ : Nat), .int .i64 (sizeC o : Nat)], .int .i64 0]) (by simp [results, Tryd.results66, go_sem, x0, x1, x2, x3, x4]) rfl ⟨rfl, m4, o4⟩
end Go.Proofs.YtidpaijnnkainaaDoor
