/- Package cpu over any registers and memory: do, a class of operations each. -/
import Derived.Test.YtmlhoagcppofgaaGreatDoorGO
namespace Go.Proofs.YtmlhoagcppofgaaGreatDoor
open Go Go.RowKit Pl
set_option linter.unusedVariables false

set_option maxRecDepth 100000 in
set_option maxHeartbeats 2000000 in
theorem do_bno {C M pc : Nat} {r : Nat → Nat} {W : World} (h : MachIs C M pc r W) (o : Int) (d u v : Nat) (im : Int) (n : Nat) (hn : IntKind.u32.wrap im = (n : Int)) (hnb : n < 4294967296) (hu : u < 32) (hv : v < 32) (ho : 36 ≤ o ∧ o ≤ 41) (p w : Nat) (k : Int) (a : Nat) (s : Int) (at_ : Nat) (hat : IntKind.u32.wrap ((pc : Int) + 4) = (at_ : Int)) (ht : takenS o (r u) (r v) = false)
    (p1 w1 : Nat) (k1 : Int) (a1 : Nat) (s1 t : Int) {Q : World → Prop} {S : Nat → Prop} (hS : ∀ j, S j → j < W.heap.size) (hQ : ∀ B V V', W.heap.size ≤ B → Q V → Out (· = B) V V' → Q V')
    (hl : ∀ W', Below W.heap.size W W' → Calls Tryz.prog 82 #[.pointer (some ⟨C, 0, none⟩), .int .u32 (at_ : Nat), .agg #[.int .u32 (p : Nat), .int .u32 (w : Nat), .int .i64 k, .int .u32 (a : Nat), .int .i64 s]] W' (DoPost Q S W' (.agg #[.int .u32 (p1 : Nat), .int .u32 (w1 : Nat), .int .i64 k1, .int .u32 (a1 : Nat), .int .i64 s1]) t)) :
    Calls Tryz.prog 54 #[.pointer (some ⟨C, 0, none⟩), .agg #[.int .i64 o, .int .i64 (d : Nat), .int .i64 (u : Nat), .int .i64 (v : Nat), .int .i32 im], .agg #[.int .u32 (p : Nat), .int .u32 (w : Nat), .int .i64 k, .int .u32 (a : Nat), .int .i64 s]] W (DoPost Q S W (.agg #[.int .u32 (p1 : Nat), .int .u32 (w1 : Nat), .int .i64 k1, .int .u32 (a1 : Nat), .int .i64 s1]) t) := by
  have H := Lib.hid h
  have HL := Lib.hid hl
  have HQ := Lib.hid hQ
  have HS := Lib.hid hS
  have HN := Lib.hid hn
  have RA := Lib.hid (fun W' (hm : MachIs C M pc r W') => mreg_any hm u hu)
  have RB := Lib.hid (fun W' (hm : MachIs C M pc r W') => mreg_any hm v hv)
  have hpc := h.pcb
  have bu := h.rb u
  have bv := h.rb v
  have q0 : decide (o ≤ 18) = false := by simp; omega
  have q1 : decide (o ≤ 27) = false := by simp; omega
  have q2 : decide (o ≤ 32) = false := by simp; omega
  have q3 : decide (o ≤ 35) = false := by simp; omega
  have q4 : decide (o ≤ 41) = true := by simp; omega
  have TK := Lib.hid (fun W' => taken_any o (r u) (r v) W' (by omega) (by omega) (by omega))
  have HT := Lib.hid ht
  have HY := Lib.hid hat
  clear ho hat ht
  clear h hl hQ hS hn
  go_enter Tryz.func54, Tryz.ntmps54
  go_wp2_with fail
  obtain ⟨g1, g2, g4, g3⟩ := three_alloc W (.cells #[.int .i64 o, .int .i64 (d : Nat), .int .i64 (u : Nat), .int .i64 (v : Nat), .int .i32 im] 34) (.cells #[.int .u32 (p : Nat), .int .u32 (w : Nat), .int .i64 k, .int .u32 (a : Nat), .int .i64 s] 39) (.cells #[.int .u32 0, .int .u32 0, .int .i64 0, .int .u32 0, .int .i64 0] 39)
  have D1 : DoAt C M pc r o d u v im p w k a s W _ := ⟨H.out.below g3, insAt_of g1, evAt_of g2, evAt_of (p := 0) (w := 0) (a := 0) g4, g3⟩
  clear g1 g2 g3 g4
  generalize World.alloc _ _ = W1 at *
  have i2 := D1.ins.c2
  have i3 := D1.ins.c3
  have i4 := D1.ins.c4
  have L1 := LikeG.refl W1
  have RA' := Lib.hid (fun W' (hm : LikeG W1 W') => RA.out W' (D1.mach.like hm))
  have RB' := Lib.hid (fun W' (hm : LikeG W1 W') => RB.out W' (D1.mach.like hm))
  have D2 := Lib.hid (D1.like (like_drew L1))
  clear D1 RA RB
  go_region_held3 (fun w' => w'.cell? ⟨W.heap.size, 2, none⟩ = some (.int .i64 (u : Nat)) ∧ w'.cell? ⟨W.heap.size, 3, none⟩ = some (.int .i64 (v : Nat)) ∧ w'.cell? ⟨W.heap.size, 4, none⟩ = some (.int .i32 im) ∧ LikeG W1 w')
    (first | (with_reducible assumption) | (exact ⟨i2, i3, i4, L1⟩) | (exact ⟨i2, i3, i4, like_drew L1⟩) | (obtain ⟨s2, s3, s4, s5⟩ := ‹_ ∧ _ ∧ _ ∧ LikeG W1 _›; first | exact ⟨s2, s3, s4, s5⟩ | exact ⟨s2, s3, s4, like_drew s5⟩))
    (first
    | (go_at_call 75; with_reducible refine (RA'.out _ (by first | exact L1 | exact like_drew L1 | (apply pick4; with_reducible assumption))).mono ?_; rintro e w8 ⟨rfl, rfl⟩)
    | (go_at_call 75; with_reducible refine (RB'.out _ (by first | exact L1 | exact like_drew L1 | (apply pick4; with_reducible assumption))).mono ?_; rintro e w8 ⟨rfl, rfl⟩))
  clear ‹_ ∧ _ ∧ _ ∧ LikeG W1 _›
  rw [HN.out]
  clear RA' RB' L1 i2 i3 i4
  generalize World.drew W1 = W2 at *
  have i0 := D2.out.ins.c0
  have i1 := D2.out.ins.c1
  have e0 := D2.out.ev.c0
  have e1 := D2.out.ev.c1
  have e2 := D2.out.ev.c2
  have e3 := D2.out.ev.c3
  have e4 := D2.out.ev.c4
  have c1 := D2.out.mach.c1
  go_wp2_with fail
  refine (TK.out _).mono ?_
  rintro e w8 ⟨rfl, rfl⟩
  rw [HT.out]
  go_wp2_with fail
  have hb2 := Lib.hid (show Below W.heap.size W W2.drew from D2.out.below.drew)
  have hZ2 := Lib.hid (D2.out.res.out ((like_drew (LikeG.refl W2)).out (fun _ => False)) id)
  go_region_with ((first | (go_at_call 82; rw [HY.out]; (with_reducible refine (HL.out _ hb2.out).mono ?_); rintro e w5 ⟨rfl, hq, ho⟩; have Z5 := Lib.hid (hZ2.out.out ho (fun g => by have := HS.out _ g; omega)); have O5 := Lib.hid ((Out.of_below S hb2.out).trans ho); have Q5 := Lib.hid hq; clear hq ho HL hb2 hZ2 i0 i1 e0 e1 e2 e3 e4 c1; have z0 := Z5.out.c0; have z1 := Z5.out.c1; have z2 := Z5.out.c2; have z3 := Z5.out.c3; have z4 := Z5.out.c4; have zf0 := Z5.out.f 0 (by omega); have zf1 := Z5.out.f 1 (by omega); have zf2 := Z5.out.f 2 (by omega); have zf3 := Z5.out.f 3 (by omega); have zf4 := Z5.out.f 4 (by omega))))
  all_goals
    go_wp2_with fail
    generalize hV : World.setCell _ ⟨W.heap.size + 2, 4, none⟩ _ = V
    have hV' : setEv w5 (W.heap.size + 2) p1 w1 k1 a1 s1 = V := hV
    obtain ⟨ev, q4, o4⟩ := fin_q hV' Z5.out Q5.out O5.out (by omega) HQ.out
    clear hV hV' z0 z1 z2 z3 z4 zf0 zf1 zf2 zf3 zf4
    have x0 := ev.c0
    have x1 := ev.c1
    have x2 := ev.c2
    have x3 := ev.c3
    have x4 := ev.c4
    refine bodyPost_ret (v := .tuple #[.agg #[.int .u32 (p1 : Nat), .int .u32 (w1 : Nat), .int .i64 k1, .int .u32 (a1 : Nat), .int .i64 s1], .int .i64 t]) (by simp [results, Tryz.results54, go_sem, x0, x1, x2, x3, x4]) rfl ⟨rfl, q4, o4⟩
set_option maxRecDepth 100000 in
set_option maxHeartbeats 2000000 in
theorem do_byes {C M pc : Nat} {r : Nat → Nat} {W : World} (h : MachIs C M pc r W) (o : Int) (d u v : Nat) (im : Int) (n : Nat) (hn : IntKind.u32.wrap im = (n : Int)) (hnb : n < 4294967296) (hu : u < 32) (hv : v < 32) (ho : 36 ≤ o ∧ o ≤ 41) (p w : Nat) (k : Int) (a : Nat) (s : Int) (at_ : Nat) (hat : IntKind.u32.wrap ((pc : Int) + (n : Int)) = (at_ : Int)) (ht : takenS o (r u) (r v) = true)
    (p1 w1 : Nat) (k1 : Int) (a1 : Nat) (s1 t : Int) {Q : World → Prop} {S : Nat → Prop} (hS : ∀ j, S j → j < W.heap.size) (hQ : ∀ B V V', W.heap.size ≤ B → Q V → Out (· = B) V V' → Q V')
    (hl : ∀ W', Below W.heap.size W W' → Calls Tryz.prog 82 #[.pointer (some ⟨C, 0, none⟩), .int .u32 (at_ : Nat), .agg #[.int .u32 (p : Nat), .int .u32 (w : Nat), .int .i64 k, .int .u32 (a : Nat), .int .i64 s]] W' (DoPost Q S W' (.agg #[.int .u32 (p1 : Nat), .int .u32 (w1 : Nat), .int .i64 k1, .int .u32 (a1 : Nat), .int .i64 s1]) t)) :
    Calls Tryz.prog 54 #[.pointer (some ⟨C, 0, none⟩), .agg #[.int .i64 o, .int .i64 (d : Nat), .int .i64 (u : Nat), .int .i64 (v : Nat), .int .i32 im], .agg #[.int .u32 (p : Nat), .int .u32 (w : Nat), .int .i64 k, .int .u32 (a : Nat), .int .i64 s]] W (DoPost Q S W (.agg #[.int .u32 (p1 : Nat), .int .u32 (w1 : Nat), .int .i64 k1, .int .u32 (a1 : Nat), .int .i64 s1]) t) := by
  have H := Lib.hid h
  have HL := Lib.hid hl
  have HQ := Lib.hid hQ
  have HS := Lib.hid hS
  have HN := Lib.hid hn
  have RA := Lib.hid (fun W' (hm : MachIs C M pc r W') => mreg_any hm u hu)
  have RB := Lib.hid (fun W' (hm : MachIs C M pc r W') => mreg_any hm v hv)
  have hpc := h.pcb
  have bu := h.rb u
  have bv := h.rb v
  have q0 : decide (o ≤ 18) = false := by simp; omega
  have q1 : decide (o ≤ 27) = false := by simp; omega
  have q2 : decide (o ≤ 32) = false := by simp; omega
  have q3 : decide (o ≤ 35) = false := by simp; omega
  have q4 : decide (o ≤ 41) = true := by simp; omega
  have TK := Lib.hid (fun W' => taken_any o (r u) (r v) W' (by omega) (by omega) (by omega))
  have HT := Lib.hid ht
  have HY := Lib.hid hat
  clear ho hat ht
  clear h hl hQ hS hn
  go_enter Tryz.func54, Tryz.ntmps54
  go_wp2_with fail
  obtain ⟨g1, g2, g4, g3⟩ := three_alloc W (.cells #[.int .i64 o, .int .i64 (d : Nat), .int .i64 (u : Nat), .int .i64 (v : Nat), .int .i32 im] 34) (.cells #[.int .u32 (p : Nat), .int .u32 (w : Nat), .int .i64 k, .int .u32 (a : Nat), .int .i64 s] 39) (.cells #[.int .u32 0, .int .u32 0, .int .i64 0, .int .u32 0, .int .i64 0] 39)
  have D1 : DoAt C M pc r o d u v im p w k a s W _ := ⟨H.out.below g3, insAt_of g1, evAt_of g2, evAt_of (p := 0) (w := 0) (a := 0) g4, g3⟩
  clear g1 g2 g3 g4
  generalize World.alloc _ _ = W1 at *
  have i2 := D1.ins.c2
  have i3 := D1.ins.c3
  have i4 := D1.ins.c4
  have L1 := LikeG.refl W1
  have RA' := Lib.hid (fun W' (hm : LikeG W1 W') => RA.out W' (D1.mach.like hm))
  have RB' := Lib.hid (fun W' (hm : LikeG W1 W') => RB.out W' (D1.mach.like hm))
  have D2 := Lib.hid (D1.like (like_drew L1))
  clear D1 RA RB
  go_region_held3 (fun w' => w'.cell? ⟨W.heap.size, 2, none⟩ = some (.int .i64 (u : Nat)) ∧ w'.cell? ⟨W.heap.size, 3, none⟩ = some (.int .i64 (v : Nat)) ∧ w'.cell? ⟨W.heap.size, 4, none⟩ = some (.int .i32 im) ∧ LikeG W1 w')
    (first | (with_reducible assumption) | (exact ⟨i2, i3, i4, L1⟩) | (exact ⟨i2, i3, i4, like_drew L1⟩) | (obtain ⟨s2, s3, s4, s5⟩ := ‹_ ∧ _ ∧ _ ∧ LikeG W1 _›; first | exact ⟨s2, s3, s4, s5⟩ | exact ⟨s2, s3, s4, like_drew s5⟩))
    (first
    | (go_at_call 75; with_reducible refine (RA'.out _ (by first | exact L1 | exact like_drew L1 | (apply pick4; with_reducible assumption))).mono ?_; rintro e w8 ⟨rfl, rfl⟩)
    | (go_at_call 75; with_reducible refine (RB'.out _ (by first | exact L1 | exact like_drew L1 | (apply pick4; with_reducible assumption))).mono ?_; rintro e w8 ⟨rfl, rfl⟩))
  clear ‹_ ∧ _ ∧ _ ∧ LikeG W1 _›
  rw [HN.out]
  clear RA' RB' L1 i2 i3 i4
  generalize World.drew W1 = W2 at *
  have i0 := D2.out.ins.c0
  have i1 := D2.out.ins.c1
  have e0 := D2.out.ev.c0
  have e1 := D2.out.ev.c1
  have e2 := D2.out.ev.c2
  have e3 := D2.out.ev.c3
  have e4 := D2.out.ev.c4
  have c1 := D2.out.mach.c1
  go_wp2_with fail
  refine (TK.out _).mono ?_
  rintro e w8 ⟨rfl, rfl⟩
  rw [HT.out]
  go_wp2_with fail
  have hb2 := Lib.hid (show Below W.heap.size W W2.drew from D2.out.below.drew)
  have hZ2 := Lib.hid (D2.out.res.out ((like_drew (LikeG.refl W2)).out (fun _ => False)) id)
  go_region_with ((first | (go_at_call 82; rw [HY.out]; (with_reducible refine (HL.out _ hb2.out).mono ?_); rintro e w5 ⟨rfl, hq, ho⟩; have Z5 := Lib.hid (hZ2.out.out ho (fun g => by have := HS.out _ g; omega)); have O5 := Lib.hid ((Out.of_below S hb2.out).trans ho); have Q5 := Lib.hid hq; clear hq ho HL hb2 hZ2 i0 i1 e0 e1 e2 e3 e4 c1; have z0 := Z5.out.c0; have z1 := Z5.out.c1; have z2 := Z5.out.c2; have z3 := Z5.out.c3; have z4 := Z5.out.c4; have zf0 := Z5.out.f 0 (by omega); have zf1 := Z5.out.f 1 (by omega); have zf2 := Z5.out.f 2 (by omega); have zf3 := Z5.out.f 3 (by omega); have zf4 := Z5.out.f 4 (by omega))))
  all_goals
    go_wp2_with fail
    generalize hV : World.setCell _ ⟨W.heap.size + 2, 4, none⟩ _ = V
    have hV' : setEv w5 (W.heap.size + 2) p1 w1 k1 a1 s1 = V := hV
    obtain ⟨ev, q4, o4⟩ := fin_q hV' Z5.out Q5.out O5.out (by omega) HQ.out
    clear hV hV' z0 z1 z2 z3 z4 zf0 zf1 zf2 zf3 zf4
    have x0 := ev.c0
    have x1 := ev.c1
    have x2 := ev.c2
    have x3 := ev.c3
    have x4 := ev.c4
    refine bodyPost_ret (v := .tuple #[.agg #[.int .u32 (p1 : Nat), .int .u32 (w1 : Nat), .int .i64 k1, .int .u32 (a1 : Nat), .int .i64 s1], .int .i64 t]) (by simp [results, Tryz.results54, go_sem, x0, x1, x2, x3, x4]) rfl ⟨rfl, q4, o4⟩
end Go.Proofs.YtmlhoagcppofgaaGreatDoor
