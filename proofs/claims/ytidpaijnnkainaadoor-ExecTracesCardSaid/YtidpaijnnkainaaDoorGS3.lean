/- The document's machine: stores. -/
import Derived.Test.YtidpaijnnkainaaDoorGR
namespace Go.Proofs.YtidpaijnnkainaaDoor
open Go Go.RowKit Pl
set_option linter.unusedVariables false

theorem RSt.weak {Y X B f n1 rr n2 pc : Nat} {r : Nat → Nat} {L : List (Nat × Nat)} {v : Value} {b0 b1 : Nat} {W V : World} (h : RSt Y X B f n1 rr n2 pc r L v b0 W V) (hb : b1 ≤ b0) : RSt Y X B f n1 rr n2 pc r L v b1 W V := by
  obtain ⟨v', m1, m2⟩ := h.mem
  exact ⟨h.mach, h.out, v', m1, fun j hj => (m2 j hj).imp id fun g => Nat.le_trans hb g⟩
set_option maxRecDepth 100000 in
set_option maxHeartbeats 4000000 in
theorem rmem_store_trap {Y X pc : Nat} {r : Nat → Nat} {W : World} (h : MachIs Y X pc r W) (o : Int) (d u v : Nat) (im : Int) (ho : 33 ≤ o ∧ o ≤ 35) (hv : v < 32) (at_ : Nat) {B f n1 rr n2 : Nat} {L L' : List (Nat × Nat)} {vv : Value} (hr : RefIs X B f n1 rr n2 L vv W) (hYX : Y ≠ X) (hYB : Y < B) (t : Int) (ht : t ≠ 0)
    (hst : ∀ W', Below W.heap.size W W' → Calls Tryd.prog 95 #[.pointer (some ⟨X, 0, none⟩), .int .u32 (at_ : Nat), .int .i64 (sizeC o : Nat), .int .u32 (r v : Nat)] W' (StoreR X B f n1 rr n2 L' vv W' t)) :
    Calls Tryd.prog 66 #[.pointer (some ⟨Y, 0, none⟩), .agg #[.int .i64 o, .int .i64 (d : Nat), .int .i64 (u : Nat), .int .i64 (v : Nat), .int .i32 im], .int .u32 (at_ : Nat)] W fun e w' => e = .returned (.tuple #[.agg #[.int .u32 ((0 : Nat) : Int), .int .u32 ((0 : Nat) : Int), .int .i64 0, .int .u32 ((0 : Nat) : Int), .int .i64 0], .int .i64 t]) ∧ RSt Y X B f n1 rr n2 pc r L' vv W.heap.size W w' := by
  obtain ⟨j, hj, hj8⟩ : ∃ j : Nat, o - 28 = (j : Int) ∧ j < 8 := ⟨(o - 28).toNat, by omega, by omega⟩
  have ROW := row8 o j hj hj8
  have RO := Lib.hid ROW
  have hY := h.lt
  have H := Lib.hid h
  have hpc := h.pcb
  have ST := Lib.hid hst
  have HR := Lib.hid hr
  have hX := hr.lt
  have OL := Lib.hid hr.own_lt
  have NS := Lib.hid (show ∀ k, W.heap.size ≤ k → ¬ RS X vv k from fun k hk g => by
    rcases g with g | g
    · omega
    · have := OL.out k g; omega)
  have NY := Lib.hid (show ¬ RS X vv Y from fun g => by
    rcases g with g | g
    · exact hYX g
    · have := OL.out Y g; omega)
  have tt : (t == 0) = false := by simp; omega
  have tt' : (t != 0) = true := by simp; omega
  have q0 : decide (o ≥ 33) = true := by simp; omega
  have q1 : decide (33 ≤ o) = true := by simp; omega
  have hj9 : (j : Int) < 8 := by omega
  have hv0 : (v : Int) < 32 := by omega
  clear h hst hr ht ho
  go_enter Tryd.func66, Tryd.ntmps66
  go_upto_region 2 with (fail)
  obtain ⟨g1, g2, g4, g3⟩ := three_alloc W (.cells #[.int .i64 o, .int .i64 (d : Nat), .int .i64 (u : Nat), .int .i64 (v : Nat), .int .i32 im] 85) (.cells #[.int .u32 0, .int .u32 0, .int .i64 0, .int .u32 0, .int .i64 0] 76) (.cells #[.int .i64 1, .int .i64 2, .int .i64 4, .int .i64 1, .int .i64 2, .int .i64 1, .int .i64 2, .int .i64 4] 3)
  have I1 := Lib.hid (insAt_of g1)
  have Z1 := Lib.hid (evAt_of (p := 0) (w := 0) (a := 0) g2)
  have B1 := Lib.hid g3
  have rc := (cell_of_row _ (W.heap.size + 2) j _ _ _ g4).trans ROW
  have sz1 : (((W.alloc (.cells #[.int .i64 o, .int .i64 (d : Nat), .int .i64 (u : Nat), .int .i64 (v : Nat), .int .i32 im] 85)).alloc (.cells #[.int .u32 0, .int .u32 0, .int .i64 0, .int .u32 0, .int .i64 0] 76)).alloc (.cells #[.int .i64 1, .int .i64 2, .int .i64 4, .int .i64 1, .int .i64 2, .int .i64 1, .int .i64 2, .int .i64 4] 3)).heap.size = W.heap.size + 3 := by simp
  clear g1 g2 g3 g4 ROW
  generalize World.alloc _ _ = W1 at *
  have i0 := I1.out.c0
  have c0 := (H.out.below B1.out).c0
  go_upto_region 4 with (fail)
  have E4 := Lib.hid (evAt_of (p := 0) (w := 0) (a := at_) (heap_alloc_new W1 (.cells #[.int .u32 0, .int .u32 0, .int .i64 2, .int .u32 (at_ : Nat), .int .i64 (sizeC o : Nat)] 76)))
  have B4 := Lib.hid (B1.out.alloc B1.out.size (.cells #[.int .u32 0, .int .u32 0, .int .i64 2, .int .u32 (at_ : Nat), .int .i64 (sizeC o : Nat)] 76))
  have Z4 := Lib.hid (Z1.out.out (Out.of_below (fun _ => False) ((Below.refl W1.heap.size W1).alloc (Nat.le_refl _) (.cells #[.int .u32 0, .int .u32 0, .int .i64 2, .int .u32 (at_ : Nat), .int .i64 (sizeC o : Nat)] 76))) id)
  have I4 := Lib.hid (I1.out.out (Out.of_below (fun _ => False) ((Below.refl W1.heap.size W1).alloc (Nat.le_refl _) (.cells #[.int .u32 0, .int .u32 0, .int .i64 2, .int .u32 (at_ : Nat), .int .i64 (sizeC o : Nat)] 76))) id)
  have sz4 : (W1.alloc (.cells #[.int .u32 0, .int .u32 0, .int .i64 2, .int .u32 (at_ : Nat), .int .i64 (sizeC o : Nat)] 76)).heap.size = W.heap.size + 4 := by simp; omega
  rw [sz1] at E4
  clear I1 Z1 rc i0 c0
  generalize World.alloc _ _ = W4 at *
  have i0 := I4.out.c0
  go_upto_region 5 with (fail)
  have i3 := I4.out.c3
  have c0 := (H.out.below B4.out).c0
  have cv := (H.out.below B4.out).c v hv
  have hb := Lib.hid (show Below W.heap.size W W4.drew from B4.out.drew)
  have hsz : W4.drew.heap.size = W.heap.size + 4 := sz4
  have hE := Lib.hid (E4.out.out ((like_drew (LikeG.refl W4)).out (fun _ => False)) id)
  have hZ := Lib.hid (Z4.out.out ((like_drew (LikeG.refl W4)).out (fun _ => False)) id)
  have hYW : Y < W4.heap.size := by omega
  go_region_held3 (fun w' => w'.cell? ⟨Y, 0, none⟩ = some (.pointer (some ⟨X, 0, none⟩)) ∧ w'.cell? ⟨W.heap.size, 3, none⟩ = some (.int .i64 (v : Nat)) ∧ w'.cell? ⟨Y, 2 + v, none⟩ = some (.int .u32 (r v : Nat)))
    (first | (with_reducible assumption) | (exact ⟨c0, i3, cv⟩) | (exact hcl))
    (first
    | (go_at_call 95; (with_reducible refine (ST.out _ hb.out).mono ?_); rintro e w8 ⟨rfl, v', hr8, ho8, hf8⟩; have hcl : w8.cell? ⟨Y, 0, none⟩ = some (.pointer (some ⟨X, 0, none⟩)) ∧ w8.cell? ⟨W.heap.size, 3, none⟩ = some (.int .i64 (v : Nat)) ∧ w8.cell? ⟨Y, 2 + v, none⟩ = some (.int .u32 (r v : Nat)) := ⟨(ho8.cell (p := ⟨Y, 0, none⟩) hYW NY.out).trans c0, (ho8.cell (p := ⟨W.heap.size, 3, none⟩) (by show W.heap.size < W4.drew.heap.size; omega) (NS.out _ (Nat.le_refl _))).trans i3, (ho8.cell (p := ⟨Y, 2 + v, none⟩) hYW NY.out).trans cv⟩))
  have R8 := Lib.hid (RSt.ofS (H.out.below hb.out) hb.out hr8 ho8 hf8 hYX hYB (fun j hj => (OL.out j hj).1))
  have E8 := Lib.hid (hE.out.out ho8 (NS.out _ (by omega)))
  have Z8 := Lib.hid (hZ.out.out ho8 (NS.out _ (by omega)))
  rw [hsz] at R8
  have hOL := Lib.hid (show ∀ j, vv.ownBlock = some j → j < W.heap.size from fun j hj => (OL.out j hj).2)
  clear hr8 ho8 hf8 hcl hE hZ hb hsz E4 Z4 B4 I4 c0 cv i3 i0 ST NS ‹_ ∧ _ ∧ _›
  have z0 := Z8.out.c0
  have z1 := Z8.out.c1
  have z2 := Z8.out.c2
  have z3 := Z8.out.c3
  have z4 := Z8.out.c4
  have zf0 := Z8.out.f 0 (by omega)
  have zf1 := Z8.out.f 1 (by omega)
  have zf2 := Z8.out.f 2 (by omega)
  have zf3 := Z8.out.f 3 (by omega)
  have zf4 := Z8.out.f 4 (by omega)
  go_wp2_with fail
  generalize hV : World.setCell _ ⟨W.heap.size + 1, 4, none⟩ _ = V
  have hV' : setEv w8 (W.heap.size + 1) 0 0 0 0 0 = V := hV
  obtain ⟨ev, q4⟩ := RSt.fin hV' Z8.out R8.out (by omega) (by omega) hY hX hOL.out
  clear hV hV' z0 z1 z2 z3 z4 zf0 zf1 zf2 zf3 zf4
  have x0 := ev.c0
  have x1 := ev.c1
  have x2 := ev.c2
  have x3 := ev.c3
  have x4 := ev.c4
  refine bodyPost_ret (v := .tuple #[.agg #[.int .u32 ((0 : Nat) : Int), .int .u32 ((0 : Nat) : Int), .int .i64 0, .int .u32 ((0 : Nat) : Int), .int .i64 0], .int .i64 t]) (by simp [results, Tryd.results66, go_sem, x0, x1, x2, x3, x4]) rfl ⟨rfl, q4.weak (by omega)⟩
set_option maxRecDepth 100000 in
set_option maxHeartbeats 4000000 in
theorem rmem_store_ok {Y X pc : Nat} {r : Nat → Nat} {W : World} (h : MachIs Y X pc r W) (o : Int) (d u v : Nat) (im : Int) (ho : 33 ≤ o ∧ o ≤ 35) (hv : v < 32) (at_ : Nat) {B f n1 rr n2 : Nat} {L L' : List (Nat × Nat)} {vv : Value} (hr : RefIs X B f n1 rr n2 L vv W) (hYX : Y ≠ X) (hYB : Y < B)
    (hst : ∀ W', Below W.heap.size W W' → Calls Tryd.prog 95 #[.pointer (some ⟨X, 0, none⟩), .int .u32 (at_ : Nat), .int .i64 (sizeC o : Nat), .int .u32 (r v : Nat)] W' (StoreR X B f n1 rr n2 L' vv W' 0)) :
    Calls Tryd.prog 66 #[.pointer (some ⟨Y, 0, none⟩), .agg #[.int .i64 o, .int .i64 (d : Nat), .int .i64 (u : Nat), .int .i64 (v : Nat), .int .i32 im], .int .u32 (at_ : Nat)] W fun e w' => e = .returned (.tuple #[.agg #[.int .u32 ((0 : Nat) : Int), .int .u32 ((0 : Nat) : Int), .int .i64 2, .int .u32 (at_ : Nat), .int .i64 (sizeC o : Nat)], .int .i64 0]) ∧ RSt Y X B f n1 rr n2 ((pc + 4) % 4294967296) r L' vv W.heap.size W w' := by
  obtain ⟨j, hj, hj8⟩ : ∃ j : Nat, o - 28 = (j : Int) ∧ j < 8 := ⟨(o - 28).toNat, by omega, by omega⟩
  have ROW := row8 o j hj hj8
  have RO := Lib.hid ROW
  have hY := h.lt
  have H := Lib.hid h
  have hpc := h.pcb
  have ST := Lib.hid hst
  have HR := Lib.hid hr
  have hX := hr.lt
  have OL := Lib.hid hr.own_lt
  have NS := Lib.hid (show ∀ k, W.heap.size ≤ k → ¬ RS X vv k from fun k hk g => by
    rcases g with g | g
    · omega
    · have := OL.out k g; omega)
  have NY := Lib.hid (show ¬ RS X vv Y from fun g => by
    rcases g with g | g
    · exact hYX g
    · have := OL.out Y g; omega)
  have q0 : decide (o ≥ 33) = true := by simp; omega
  have q1 : decide (33 ≤ o) = true := by simp; omega
  have hj9 : (j : Int) < 8 := by omega
  have hv0 : (v : Int) < 32 := by omega
  clear h hst hr ho
  go_enter Tryd.func66, Tryd.ntmps66
  go_upto_region 2 with (fail)
  obtain ⟨g1, g2, g4, g3⟩ := three_alloc W (.cells #[.int .i64 o, .int .i64 (d : Nat), .int .i64 (u : Nat), .int .i64 (v : Nat), .int .i32 im] 85) (.cells #[.int .u32 0, .int .u32 0, .int .i64 0, .int .u32 0, .int .i64 0] 76) (.cells #[.int .i64 1, .int .i64 2, .int .i64 4, .int .i64 1, .int .i64 2, .int .i64 1, .int .i64 2, .int .i64 4] 3)
  have I1 := Lib.hid (insAt_of g1)
  have Z1 := Lib.hid (evAt_of (p := 0) (w := 0) (a := 0) g2)
  have B1 := Lib.hid g3
  have rc := (cell_of_row _ (W.heap.size + 2) j _ _ _ g4).trans ROW
  have sz1 : (((W.alloc (.cells #[.int .i64 o, .int .i64 (d : Nat), .int .i64 (u : Nat), .int .i64 (v : Nat), .int .i32 im] 85)).alloc (.cells #[.int .u32 0, .int .u32 0, .int .i64 0, .int .u32 0, .int .i64 0] 76)).alloc (.cells #[.int .i64 1, .int .i64 2, .int .i64 4, .int .i64 1, .int .i64 2, .int .i64 1, .int .i64 2, .int .i64 4] 3)).heap.size = W.heap.size + 3 := by simp
  clear g1 g2 g3 g4 ROW
  generalize World.alloc _ _ = W1 at *
  have i0 := I1.out.c0
  have c0 := (H.out.below B1.out).c0
  go_upto_region 4 with (fail)
  have E4 := Lib.hid (evAt_of (p := 0) (w := 0) (a := at_) (heap_alloc_new W1 (.cells #[.int .u32 0, .int .u32 0, .int .i64 2, .int .u32 (at_ : Nat), .int .i64 (sizeC o : Nat)] 76)))
  have B4 := Lib.hid (B1.out.alloc B1.out.size (.cells #[.int .u32 0, .int .u32 0, .int .i64 2, .int .u32 (at_ : Nat), .int .i64 (sizeC o : Nat)] 76))
  have Z4 := Lib.hid (Z1.out.out (Out.of_below (fun _ => False) ((Below.refl W1.heap.size W1).alloc (Nat.le_refl _) (.cells #[.int .u32 0, .int .u32 0, .int .i64 2, .int .u32 (at_ : Nat), .int .i64 (sizeC o : Nat)] 76))) id)
  have I4 := Lib.hid (I1.out.out (Out.of_below (fun _ => False) ((Below.refl W1.heap.size W1).alloc (Nat.le_refl _) (.cells #[.int .u32 0, .int .u32 0, .int .i64 2, .int .u32 (at_ : Nat), .int .i64 (sizeC o : Nat)] 76))) id)
  have sz4 : (W1.alloc (.cells #[.int .u32 0, .int .u32 0, .int .i64 2, .int .u32 (at_ : Nat), .int .i64 (sizeC o : Nat)] 76)).heap.size = W.heap.size + 4 := by simp; omega
  rw [sz1] at E4
  clear I1 Z1 rc i0 c0
  generalize World.alloc _ _ = W4 at *
  have i0 := I4.out.c0
  go_upto_region 5 with (fail)
  have i3 := I4.out.c3
  have c0 := (H.out.below B4.out).c0
  have cv := (H.out.below B4.out).c v hv
  have hb := Lib.hid (show Below W.heap.size W W4.drew from B4.out.drew)
  have hsz : W4.drew.heap.size = W.heap.size + 4 := sz4
  have hE := Lib.hid (E4.out.out ((like_drew (LikeG.refl W4)).out (fun _ => False)) id)
  have hZ := Lib.hid (Z4.out.out ((like_drew (LikeG.refl W4)).out (fun _ => False)) id)
  have hYW : Y < W4.heap.size := by omega
  go_region_held3 (fun w' => w'.cell? ⟨Y, 0, none⟩ = some (.pointer (some ⟨X, 0, none⟩)) ∧ w'.cell? ⟨W.heap.size, 3, none⟩ = some (.int .i64 (v : Nat)) ∧ w'.cell? ⟨Y, 2 + v, none⟩ = some (.int .u32 (r v : Nat)))
    (first | (with_reducible assumption) | (exact ⟨c0, i3, cv⟩) | (exact hcl))
    (first
    | (go_at_call 95; (with_reducible refine (ST.out _ hb.out).mono ?_); rintro e w8 ⟨rfl, v', hr8, ho8, hf8⟩; have hcl : w8.cell? ⟨Y, 0, none⟩ = some (.pointer (some ⟨X, 0, none⟩)) ∧ w8.cell? ⟨W.heap.size, 3, none⟩ = some (.int .i64 (v : Nat)) ∧ w8.cell? ⟨Y, 2 + v, none⟩ = some (.int .u32 (r v : Nat)) := ⟨(ho8.cell (p := ⟨Y, 0, none⟩) hYW NY.out).trans c0, (ho8.cell (p := ⟨W.heap.size, 3, none⟩) (by show W.heap.size < W4.drew.heap.size; omega) (NS.out _ (Nat.le_refl _))).trans i3, (ho8.cell (p := ⟨Y, 2 + v, none⟩) hYW NY.out).trans cv⟩))
  have R8 := Lib.hid (RSt.ofS (H.out.below hb.out) hb.out hr8 ho8 hf8 hYX hYB (fun j hj => (OL.out j hj).1))
  have E8 := Lib.hid (hE.out.out ho8 (NS.out _ (by omega)))
  have Z8 := Lib.hid (hZ.out.out ho8 (NS.out _ (by omega)))
  rw [hsz] at R8
  have hOL := Lib.hid (show ∀ j, vv.ownBlock = some j → j < W.heap.size from fun j hj => (OL.out j hj).2)
  clear hr8 ho8 hf8 hcl hE hZ hb hsz E4 Z4 B4 I4 c0 cv i3 i0 ST NS ‹_ ∧ _ ∧ _›
  have c1 := R8.out.mach.c1
  have HW := Lib.hid (show IntKind.u32.wrap ((pc : Int) + 4) = (((pc + 4) % 4294967296 : Nat) : Int) by rw [IntKind.wrap_u32]; omega)
  have e0 := E8.out.c0
  have e1 := E8.out.c1
  have e2 := E8.out.c2
  have e3 := E8.out.c3
  have e4 := E8.out.c4
  go_wp2_with fail
  have LD8 := Lib.hid (like_drew (LikeG.refl w8))
  have hRD := Lib.hid (show RSt Y X B f n1 rr n2 pc r L' vv (W.heap.size + 4) W w8.drew from ⟨R8.out.mach.like LD8.out, R8.out.out.trans (LD8.out.out _), by obtain ⟨v2, m1, m2⟩ := R8.out.mem; exact ⟨v2, m1.like LD8.out, m2⟩⟩)
  have hED := Lib.hid (E8.out.out (LD8.out.out (fun _ => False)) id)
  have hZD := Lib.hid (Z8.out.out (LD8.out.out (fun _ => False)) id)
  go_region_with ((first | (go_at_call 64; rw [HW.out]; (with_reducible refine (rcset_none hRD.out.mach _ ((pc + 4) % 4294967296) (Nat.mod_lt _ (by decide))).mono ?_); rintro e w6 ⟨rfl, hm, ho⟩; have Z6 := Lib.hid (hZD.out.out ho (by omega)); have E6 := Lib.hid (hED.out.out ho (by omega)); have R6 := Lib.hid (hRD.out.ofY hm ho hYX hYB hY); clear hm ho LD8 hRD hZD hED c1 e0 e1 e2 e3 e4 E8 Z8 R8; have z0 := Z6.out.c0; have zf0 := Z6.out.f 0 (by omega); have e0 := E6.out.c0; have z1 := Z6.out.c1; have zf1 := Z6.out.f 1 (by omega); have e1 := E6.out.c1; have z2 := Z6.out.c2; have zf2 := Z6.out.f 2 (by omega); have e2 := E6.out.c2; have z3 := Z6.out.c3; have zf3 := Z6.out.f 3 (by omega); have e3 := E6.out.c3; have z4 := Z6.out.c4; have zf4 := Z6.out.f 4 (by omega); have e4 := E6.out.c4; skip)))
  all_goals
    go_wp2_with fail
    generalize hV : World.setCell _ ⟨W.heap.size + 1, 4, none⟩ _ = V
    have hV' : setEv w6 (W.heap.size + 1) 0 0 2 at_ (sizeC o : Nat) = V := hV
    obtain ⟨ev, q4⟩ := RSt.fin hV' Z6.out R6.out (by omega) (by omega) hY hX hOL.out
    clear hV hV' z0 z1 z2 z3 z4 zf0 zf1 zf2 zf3 zf4
    have x0 := ev.c0
    have x1 := ev.c1
    have x2 := ev.c2
    have x3 := ev.c3
    have x4 := ev.c4
    refine bodyPost_ret (v := .tuple #[.agg #[.int .u32 ((0 : Nat) : Int), .int .u32 ((0 : Nat) : Int), .int .i64 2, .int .u32 (at_ : Nat), .int .i64 (sizeC o : Nat)], .int .i64 0]) (by simp [results, Tryd.results66, go_sem, x0, x1, x2, x3, x4]) rfl ⟨rfl, q4.weak (by omega)⟩
end Go.Proofs.YtidpaijnnkainaaDoor
