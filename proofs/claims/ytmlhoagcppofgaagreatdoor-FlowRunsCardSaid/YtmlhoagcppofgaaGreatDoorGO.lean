/- Package cpu over any registers and memory: do, a class of operations each. -/
import Derived.Test.YtmlhoagcppofgaaGreatDoorGN
namespace Go.Proofs.YtmlhoagcppofgaaGreatDoor
open Go Go.RowKit Pl
set_option linter.unusedVariables false

/-- what do has laid before its first region -/
structure DoAt (C M pc : Nat) (r : Nat → Nat) (o : Int) (d u v : Nat) (im : Int) (p w : Nat) (k : Int) (a : Nat) (s : Int) (W V : World) : Prop where
  mach : MachIs C M pc r V
  ins : InsAt W.heap.size o d u v im V
  ev : EvAt (W.heap.size + 1) p w k a s V
  res : EvAt (W.heap.size + 2) 0 0 0 0 0 V
  below : Below W.heap.size W V
theorem DoAt.like {C M pc : Nat} {r : Nat → Nat} {o : Int} {d u v : Nat} {im : Int} {p w : Nat} {k : Int} {a : Nat} {s : Int} {W V V' : World} (h : DoAt C M pc r o d u v im p w k a s W V) (l : LikeG V V') : DoAt C M pc r o d u v im p w k a s W V' :=
  ⟨h.mach.like l, h.ins.out (l.out (fun _ => False)) id, h.ev.out (l.out (fun _ => False)) id, h.res.out (l.out (fun _ => False)) id, l.2 _ _ h.below⟩
theorem like_drew {a b : World} (h : LikeG a b) : LikeG a b.drew := h.trans (.drewN b 1)
theorem pick4 {A B C P : Prop} (h : A ∧ B ∧ C ∧ P) : P := h.2.2.2
/-- what do answers, whatever holds behind -/
def DoPost (Q : World → Prop) (S : Nat → Prop) (W : World) (ev : Value) (t : Int) (e : Ending) (w' : World) : Prop := e = .returned (.tuple #[ev, .int .i64 t]) ∧ Q w' ∧ Out S W w'
theorem fin_q {RB : Nat} {S : Nat → Prop} {Q : World → Prop} {W w3 V : World} {p w p' w' : Nat} {k k' : Int} {a a' : Nat} {s s' : Int} (hV : setEv w3 RB p w k a s = V) (hz : EvAt RB p' w' k' a' s' w3) (hq : Q w3) (ho : Out S W w3) (hR : W.heap.size ≤ RB)
    (hQ : ∀ B V V', W.heap.size ≤ B → Q V → Out (· = B) V V' → Q V') : EvAt RB p w k a s V ∧ Q V ∧ Out S W V := by
  have ev := setEv_at hz p w k a s
  have o4 := setEv_out w3 RB p w k a s
  rw [hV] at ev o4
  exact ⟨ev, hQ RB w3 V hR hq o4, ⟨o4.os.trans ho.os, o4.tape.trans ho.tape, o4.output.trans ho.output, Nat.le_trans ho.size o4.size, fun j hj hs => (o4.block j (Nat.lt_of_lt_of_le hj ho.size) (by omega)).trans (ho.block j hj hs)⟩⟩
set_option maxRecDepth 100000 in
set_option maxHeartbeats 2000000 in
theorem do_alu {C M pc : Nat} {r : Nat → Nat} {W : World} (h : MachIs C M pc r W) (o : Int) (d u v : Nat) (im : Int) (n : Nat) (hn : IntKind.u32.wrap im = (n : Int)) (hnb : n < 4294967296) (hu : u < 32) (hv : v < 32) (ho : 1 ≤ o ∧ o ≤ 18) (p w : Nat) (k : Int) (a : Nat) (s : Int) (y : Nat) (hy : aluS o (r u : Nat) (r v : Nat) = (y : Int))
    (p1 w1 : Nat) (k1 : Int) (a1 : Nat) (s1 t : Int) {Q : World → Prop} {S : Nat → Prop} (hS : ∀ j, S j → j < W.heap.size) (hQ : ∀ B V V', W.heap.size ≤ B → Q V → Out (· = B) V V' → Q V')
    (hl : ∀ W', Below W.heap.size W W' → Calls Tryz.prog 77 #[.pointer (some ⟨C, 0, none⟩), .int .i64 (d : Nat), .int .u32 (y : Nat), .agg #[.int .u32 (p : Nat), .int .u32 (w : Nat), .int .i64 k, .int .u32 (a : Nat), .int .i64 s]] W' (DoPost Q S W' (.agg #[.int .u32 (p1 : Nat), .int .u32 (w1 : Nat), .int .i64 k1, .int .u32 (a1 : Nat), .int .i64 s1]) t)) :
    Calls Tryz.prog 54 #[.pointer (some ⟨C, 0, none⟩), .agg #[.int .i64 o, .int .i64 (d : Nat), .int .i64 (u : Nat), .int .i64 (v : Nat), .int .i32 im], .agg #[.int .u32 (p : Nat), .int .u32 (w : Nat), .int .i64 k, .int .u32 (a : Nat), .int .i64 s]] W (DoPost Q S W (.agg #[.int .u32 (p1 : Nat), .int .u32 (w1 : Nat), .int .i64 k1, .int .u32 (a1 : Nat), .int .i64 s1]) t) := by
  have H := Lib.hid h
  have HL := Lib.hid hl
  have HQ := Lib.hid hQ
  have HS := Lib.hid hS
  have HN := Lib.hid hn
  have RA := Lib.hid (fun W' (hm : MachIs C M pc r W') => mreg_any hm u hu)
  have RB := Lib.hid (fun W' (hm : MachIs C M pc r W') => mreg_any hm v hv)
  have hpc := h.pcb
  have bu := h.rb u
  have bv := h.rb v
  have q0 : decide (o ≤ 18) = true := by simp; omega
  have AL := Lib.hid (fun W' => num_alu o (r u : Nat) (r v : Nat) W' (by omega) (by omega) (by omega) (by omega) (by omega) (by omega))
  have HY := Lib.hid hy
  clear hy
  clear h hl hQ hS hn
  go_enter Tryz.func54, Tryz.ntmps54
  go_wp2_with fail
  obtain ⟨g1, g2, g4, g3⟩ := three_alloc W (.cells #[.int .i64 o, .int .i64 (d : Nat), .int .i64 (u : Nat), .int .i64 (v : Nat), .int .i32 im] 34) (.cells #[.int .u32 (p : Nat), .int .u32 (w : Nat), .int .i64 k, .int .u32 (a : Nat), .int .i64 s] 39) (.cells #[.int .u32 0, .int .u32 0, .int .i64 0, .int .u32 0, .int .i64 0] 39)
  have D1 : DoAt C M pc r o d u v im p w k a s W _ := ⟨H.out.below g3, insAt_of g1, evAt_of g2, evAt_of (p := 0) (w := 0) (a := 0) g4, g3⟩
  clear g1 g2 g3 g4
  generalize World.alloc _ _ = W1 at *
  have i2 := D1.ins.c2
  have i3 := D1.ins.c3
  have i4 := D1.ins.c4
  have L1 := LikeG.refl W1
  have RA' := Lib.hid (fun W' (hm : LikeG W1 W') => RA.out W' (D1.mach.like hm))
  have RB' := Lib.hid (fun W' (hm : LikeG W1 W') => RB.out W' (D1.mach.like hm))
  have D2 := Lib.hid (D1.like (like_drew L1))
  clear D1 RA RB
  go_region_held3 (fun w' => w'.cell? ⟨W.heap.size, 2, none⟩ = some (.int .i64 (u : Nat)) ∧ w'.cell? ⟨W.heap.size, 3, none⟩ = some (.int .i64 (v : Nat)) ∧ w'.cell? ⟨W.heap.size, 4, none⟩ = some (.int .i32 im) ∧ LikeG W1 w')
    (first | (with_reducible assumption) | (exact ⟨i2, i3, i4, L1⟩) | (exact ⟨i2, i3, i4, like_drew L1⟩) | (obtain ⟨s2, s3, s4, s5⟩ := ‹_ ∧ _ ∧ _ ∧ LikeG W1 _›; first | exact ⟨s2, s3, s4, s5⟩ | exact ⟨s2, s3, s4, like_drew s5⟩))
    (first
    | (go_at_call 75; with_reducible refine (RA'.out _ (by first | exact L1 | exact like_drew L1 | (apply pick4; with_reducible assumption))).mono ?_; rintro e w8 ⟨rfl, rfl⟩)
    | (go_at_call 75; with_reducible refine (RB'.out _ (by first | exact L1 | exact like_drew L1 | (apply pick4; with_reducible assumption))).mono ?_; rintro e w8 ⟨rfl, rfl⟩))
  clear ‹_ ∧ _ ∧ _ ∧ LikeG W1 _›
  rw [HN.out]
  clear RA' RB' L1 i2 i3 i4
  generalize World.drew W1 = W2 at *
  have i0 := D2.out.ins.c0
  have i1 := D2.out.ins.c1
  have e0 := D2.out.ev.c0
  have e1 := D2.out.ev.c1
  have e2 := D2.out.ev.c2
  have e3 := D2.out.ev.c3
  have e4 := D2.out.ev.c4
  go_wp2_with fail
  refine (AL.out _).mono ?_
  rintro e w8 ⟨rfl, rfl⟩
  rw [HY.out]
  go_wp2_with fail
  refine (HL.out _ D2.out.below).mono ?_
  rintro e w5 ⟨rfl, hq, ho⟩
  have Z5 := Lib.hid (D2.out.res.out ho (fun g => by have := HS.out _ g; omega))
  have O5 := Lib.hid ((Out.of_below S D2.out.below).trans ho)
  have Q5 := Lib.hid hq
  clear HL D2 hq ho i0 i1 e0 e1 e2 e3 e4
  have z0 := Z5.out.c0
  have z1 := Z5.out.c1
  have z2 := Z5.out.c2
  have z3 := Z5.out.c3
  have z4 := Z5.out.c4
  have zf0 := Z5.out.f 0 (by omega)
  have zf1 := Z5.out.f 1 (by omega)
  have zf2 := Z5.out.f 2 (by omega)
  have zf3 := Z5.out.f 3 (by omega)
  have zf4 := Z5.out.f 4 (by omega)
  go_wp2_with fail
  generalize hV : World.setCell _ ⟨W.heap.size + 2, 4, none⟩ _ = V
  have hV' : setEv w5 (W.heap.size + 2) p1 w1 k1 a1 s1 = V := hV
  obtain ⟨ev, q4, o4⟩ := fin_q hV' Z5.out Q5.out O5.out (by omega) HQ.out
  clear hV hV' z0 z1 z2 z3 z4 zf0 zf1 zf2 zf3 zf4
  have x0 := ev.c0
  have x1 := ev.c1
  have x2 := ev.c2
  have x3 := ev.c3
  have x4 := ev.c4
  refine bodyPost_ret (v := .tuple #[.agg #[.int .u32 (p1 : Nat), .int .u32 (w1 : Nat), .int .i64 k1, .int .u32 (a1 : Nat), .int .i64 s1], .int .i64 t]) (by simp [results, Tryz.results54, go_sem, x0, x1, x2, x3, x4]) rfl ⟨rfl, q4, o4⟩
set_option maxRecDepth 100000 in
set_option maxHeartbeats 2000000 in
theorem do_num {C M pc : Nat} {r : Nat → Nat} {W : World} (h : MachIs C M pc r W) (o : Int) (d u v : Nat) (im : Int) (n : Nat) (hn : IntKind.u32.wrap im = (n : Int)) (hnb : n < 4294967296) (hu : u < 32) (hv : v < 32) (ho : 19 ≤ o ∧ o ≤ 27) (p w : Nat) (k : Int) (a : Nat) (s : Int) (y : Nat) (hy : aluS (ofC o) (r u : Nat) (n : Nat) = (y : Int))
    (p1 w1 : Nat) (k1 : Int) (a1 : Nat) (s1 t : Int) {Q : World → Prop} {S : Nat → Prop} (hS : ∀ j, S j → j < W.heap.size) (hQ : ∀ B V V', W.heap.size ≤ B → Q V → Out (· = B) V V' → Q V')
    (hl : ∀ W', Below W.heap.size W W' → Calls Tryz.prog 77 #[.pointer (some ⟨C, 0, none⟩), .int .i64 (d : Nat), .int .u32 (y : Nat), .agg #[.int .u32 (p : Nat), .int .u32 (w : Nat), .int .i64 k, .int .u32 (a : Nat), .int .i64 s]] W' (DoPost Q S W' (.agg #[.int .u32 (p1 : Nat), .int .u32 (w1 : Nat), .int .i64 k1, .int .u32 (a1 : Nat), .int .i64 s1]) t)) :
    Calls Tryz.prog 54 #[.pointer (some ⟨C, 0, none⟩), .agg #[.int .i64 o, .int .i64 (d : Nat), .int .i64 (u : Nat), .int .i64 (v : Nat), .int .i32 im], .agg #[.int .u32 (p : Nat), .int .u32 (w : Nat), .int .i64 k, .int .u32 (a : Nat), .int .i64 s]] W (DoPost Q S W (.agg #[.int .u32 (p1 : Nat), .int .u32 (w1 : Nat), .int .i64 k1, .int .u32 (a1 : Nat), .int .i64 s1]) t) := by
  have H := Lib.hid h
  have HL := Lib.hid hl
  have HQ := Lib.hid hQ
  have HS := Lib.hid hS
  have HN := Lib.hid hn
  have RA := Lib.hid (fun W' (hm : MachIs C M pc r W') => mreg_any hm u hu)
  have RB := Lib.hid (fun W' (hm : MachIs C M pc r W') => mreg_any hm v hv)
  have hpc := h.pcb
  have bu := h.rb u
  have bv := h.rb v
  have q0 : decide (o ≤ 18) = false := by simp; omega
  have q1 : decide (o ≤ 27) = true := by simp; omega
  have hof : 1 ≤ ofC o ∧ ofC o ≤ 18 := by unfold ofC; split <;> (try split) <;> (try split) <;> (try split) <;> (try split) <;> (try split) <;> (try split) <;> (try split) <;> omega
  have OF := Lib.hid (fun W' => ofNumber_any o W' (by omega))
  have AL := Lib.hid (fun W' => num_alu (ofC o) (r u : Nat) (n : Nat) W' (by omega) (by omega) (by omega) (by omega) hof.1 hof.2)
  have HY := Lib.hid hy
  clear hy hof
  clear h hl hQ hS hn
  go_enter Tryz.func54, Tryz.ntmps54
  go_wp2_with fail
  obtain ⟨g1, g2, g4, g3⟩ := three_alloc W (.cells #[.int .i64 o, .int .i64 (d : Nat), .int .i64 (u : Nat), .int .i64 (v : Nat), .int .i32 im] 34) (.cells #[.int .u32 (p : Nat), .int .u32 (w : Nat), .int .i64 k, .int .u32 (a : Nat), .int .i64 s] 39) (.cells #[.int .u32 0, .int .u32 0, .int .i64 0, .int .u32 0, .int .i64 0] 39)
  have D1 : DoAt C M pc r o d u v im p w k a s W _ := ⟨H.out.below g3, insAt_of g1, evAt_of g2, evAt_of (p := 0) (w := 0) (a := 0) g4, g3⟩
  clear g1 g2 g3 g4
  generalize World.alloc _ _ = W1 at *
  have i2 := D1.ins.c2
  have i3 := D1.ins.c3
  have i4 := D1.ins.c4
  have L1 := LikeG.refl W1
  have RA' := Lib.hid (fun W' (hm : LikeG W1 W') => RA.out W' (D1.mach.like hm))
  have RB' := Lib.hid (fun W' (hm : LikeG W1 W') => RB.out W' (D1.mach.like hm))
  have D2 := Lib.hid (D1.like (like_drew L1))
  clear D1 RA RB
  go_region_held3 (fun w' => w'.cell? ⟨W.heap.size, 2, none⟩ = some (.int .i64 (u : Nat)) ∧ w'.cell? ⟨W.heap.size, 3, none⟩ = some (.int .i64 (v : Nat)) ∧ w'.cell? ⟨W.heap.size, 4, none⟩ = some (.int .i32 im) ∧ LikeG W1 w')
    (first | (with_reducible assumption) | (exact ⟨i2, i3, i4, L1⟩) | (exact ⟨i2, i3, i4, like_drew L1⟩) | (obtain ⟨s2, s3, s4, s5⟩ := ‹_ ∧ _ ∧ _ ∧ LikeG W1 _›; first | exact ⟨s2, s3, s4, s5⟩ | exact ⟨s2, s3, s4, like_drew s5⟩))
    (first
    | (go_at_call 75; with_reducible refine (RA'.out _ (by first | exact L1 | exact like_drew L1 | (apply pick4; with_reducible assumption))).mono ?_; rintro e w8 ⟨rfl, rfl⟩)
    | (go_at_call 75; with_reducible refine (RB'.out _ (by first | exact L1 | exact like_drew L1 | (apply pick4; with_reducible assumption))).mono ?_; rintro e w8 ⟨rfl, rfl⟩))
  clear ‹_ ∧ _ ∧ _ ∧ LikeG W1 _›
  rw [HN.out]
  clear RA' RB' L1 i2 i3 i4
  generalize World.drew W1 = W2 at *
  have i0 := D2.out.ins.c0
  have i1 := D2.out.ins.c1
  have e0 := D2.out.ev.c0
  have e1 := D2.out.ev.c1
  have e2 := D2.out.ev.c2
  have e3 := D2.out.ev.c3
  have e4 := D2.out.ev.c4
  go_wp2_with fail
  refine (OF.out _).mono ?_
  rintro e w8 ⟨rfl, rfl⟩
  go_wp2_with fail
  refine (AL.out _).mono ?_
  rintro e w8 ⟨rfl, rfl⟩
  rw [HY.out]
  go_wp2_with fail
  refine (HL.out _ D2.out.below).mono ?_
  rintro e w5 ⟨rfl, hq, ho⟩
  have Z5 := Lib.hid (D2.out.res.out ho (fun g => by have := HS.out _ g; omega))
  have O5 := Lib.hid ((Out.of_below S D2.out.below).trans ho)
  have Q5 := Lib.hid hq
  clear HL D2 hq ho i0 i1 e0 e1 e2 e3 e4
  have z0 := Z5.out.c0
  have z1 := Z5.out.c1
  have z2 := Z5.out.c2
  have z3 := Z5.out.c3
  have z4 := Z5.out.c4
  have zf0 := Z5.out.f 0 (by omega)
  have zf1 := Z5.out.f 1 (by omega)
  have zf2 := Z5.out.f 2 (by omega)
  have zf3 := Z5.out.f 3 (by omega)
  have zf4 := Z5.out.f 4 (by omega)
  go_wp2_with fail
  generalize hV : World.setCell _ ⟨W.heap.size + 2, 4, none⟩ _ = V
  have hV' : setEv w5 (W.heap.size + 2) p1 w1 k1 a1 s1 = V := hV
  obtain ⟨ev, q4, o4⟩ := fin_q hV' Z5.out Q5.out O5.out (by omega) HQ.out
  clear hV hV' z0 z1 z2 z3 z4 zf0 zf1 zf2 zf3 zf4
  have x0 := ev.c0
  have x1 := ev.c1
  have x2 := ev.c2
  have x3 := ev.c3
  have x4 := ev.c4
  refine bodyPost_ret (v := .tuple #[.agg #[.int .u32 (p1 : Nat), .int .u32 (w1 : Nat), .int .i64 k1, .int .u32 (a1 : Nat), .int .i64 s1], .int .i64 t]) (by simp [results, Tryz.results54, go_sem, x0, x1, x2, x3, x4]) rfl ⟨rfl, q4, o4⟩
set_option maxRecDepth 100000 in
set_option maxHeartbeats 2000000 in
theorem do_load {C M pc : Nat} {r : Nat → Nat} {W : World} (h : MachIs C M pc r W) (o : Int) (d u v : Nat) (im : Int) (n : Nat) (hn : IntKind.u32.wrap im = (n : Int)) (hnb : n < 4294967296) (hu : u < 32) (hv : v < 32) (ho : 28 ≤ o ∧ o ≤ 32) (p w : Nat) (k : Int) (a : Nat) (s : Int) (at_ : Nat) (hat : ((r u : Int) + (n : Int)) % 4294967296 = (at_ : Int))
    (p1 w1 : Nat) (k1 : Int) (a1 : Nat) (s1 t : Int) {Q : World → Prop} {S : Nat → Prop} (hS : ∀ j, S j → j < W.heap.size) (hQ : ∀ B V V', W.heap.size ≤ B → Q V → Out (· = B) V V' → Q V')
    (hl : ∀ W', Below W.heap.size W W' → Calls Tryz.prog 79 #[.pointer (some ⟨C, 0, none⟩), .agg #[.int .i64 o, .int .i64 (d : Nat), .int .i64 (u : Nat), .int .i64 (v : Nat), .int .i32 im], .int .u32 (at_ : Nat), .agg #[.int .u32 (p : Nat), .int .u32 (w : Nat), .int .i64 k, .int .u32 (a : Nat), .int .i64 s]] W' (DoPost Q S W' (.agg #[.int .u32 (p1 : Nat), .int .u32 (w1 : Nat), .int .i64 k1, .int .u32 (a1 : Nat), .int .i64 s1]) t)) :
    Calls Tryz.prog 54 #[.pointer (some ⟨C, 0, none⟩), .agg #[.int .i64 o, .int .i64 (d : Nat), .int .i64 (u : Nat), .int .i64 (v : Nat), .int .i32 im], .agg #[.int .u32 (p : Nat), .int .u32 (w : Nat), .int .i64 k, .int .u32 (a : Nat), .int .i64 s]] W (DoPost Q S W (.agg #[.int .u32 (p1 : Nat), .int .u32 (w1 : Nat), .int .i64 k1, .int .u32 (a1 : Nat), .int .i64 s1]) t) := by
  have H := Lib.hid h
  have HL := Lib.hid hl
  have HQ := Lib.hid hQ
  have HS := Lib.hid hS
  have HN := Lib.hid hn
  have RA := Lib.hid (fun W' (hm : MachIs C M pc r W') => mreg_any hm u hu)
  have RB := Lib.hid (fun W' (hm : MachIs C M pc r W') => mreg_any hm v hv)
  have hpc := h.pcb
  have bu := h.rb u
  have bv := h.rb v
  have q0 : decide (o ≤ 18) = false := by simp; omega
  have q1 : decide (o ≤ 27) = false := by simp; omega
  have q2 : decide (o ≤ 32) = true := by simp; omega
  have HY := Lib.hid hat
  clear hat
  clear h hl hQ hS hn
  go_enter Tryz.func54, Tryz.ntmps54
  go_wp2_with fail
  obtain ⟨g1, g2, g4, g3⟩ := three_alloc W (.cells #[.int .i64 o, .int .i64 (d : Nat), .int .i64 (u : Nat), .int .i64 (v : Nat), .int .i32 im] 34) (.cells #[.int .u32 (p : Nat), .int .u32 (w : Nat), .int .i64 k, .int .u32 (a : Nat), .int .i64 s] 39) (.cells #[.int .u32 0, .int .u32 0, .int .i64 0, .int .u32 0, .int .i64 0] 39)
  have D1 : DoAt C M pc r o d u v im p w k a s W _ := ⟨H.out.below g3, insAt_of g1, evAt_of g2, evAt_of (p := 0) (w := 0) (a := 0) g4, g3⟩
  clear g1 g2 g3 g4
  generalize World.alloc _ _ = W1 at *
  have i2 := D1.ins.c2
  have i3 := D1.ins.c3
  have i4 := D1.ins.c4
  have L1 := LikeG.refl W1
  have RA' := Lib.hid (fun W' (hm : LikeG W1 W') => RA.out W' (D1.mach.like hm))
  have RB' := Lib.hid (fun W' (hm : LikeG W1 W') => RB.out W' (D1.mach.like hm))
  have D2 := Lib.hid (D1.like (like_drew L1))
  clear D1 RA RB
  go_region_held3 (fun w' => w'.cell? ⟨W.heap.size, 2, none⟩ = some (.int .i64 (u : Nat)) ∧ w'.cell? ⟨W.heap.size, 3, none⟩ = some (.int .i64 (v : Nat)) ∧ w'.cell? ⟨W.heap.size, 4, none⟩ = some (.int .i32 im) ∧ LikeG W1 w')
    (first | (with_reducible assumption) | (exact ⟨i2, i3, i4, L1⟩) | (exact ⟨i2, i3, i4, like_drew L1⟩) | (obtain ⟨s2, s3, s4, s5⟩ := ‹_ ∧ _ ∧ _ ∧ LikeG W1 _›; first | exact ⟨s2, s3, s4, s5⟩ | exact ⟨s2, s3, s4, like_drew s5⟩))
    (first
    | (go_at_call 75; with_reducible refine (RA'.out _ (by first | exact L1 | exact like_drew L1 | (apply pick4; with_reducible assumption))).mono ?_; rintro e w8 ⟨rfl, rfl⟩)
    | (go_at_call 75; with_reducible refine (RB'.out _ (by first | exact L1 | exact like_drew L1 | (apply pick4; with_reducible assumption))).mono ?_; rintro e w8 ⟨rfl, rfl⟩))
  clear ‹_ ∧ _ ∧ _ ∧ LikeG W1 _›
  rw [HN.out]
  clear RA' RB' L1 i2 i3 i4
  generalize World.drew W1 = W2 at *
  have i0 := D2.out.ins.c0
  have i1 := D2.out.ins.c1
  have i2 := D2.out.ins.c2
  have i3 := D2.out.ins.c3
  have i4 := D2.out.ins.c4
  have e0 := D2.out.ev.c0
  have e1 := D2.out.ev.c1
  have e2 := D2.out.ev.c2
  have e3 := D2.out.ev.c3
  have e4 := D2.out.ev.c4
  go_wp2_with fail
  rw [HY.out]
  refine (HL.out _ D2.out.below).mono ?_
  rintro e w5 ⟨rfl, hq, ho⟩
  have Z5 := Lib.hid (D2.out.res.out ho (fun g => by have := HS.out _ g; omega))
  have O5 := Lib.hid ((Out.of_below S D2.out.below).trans ho)
  have Q5 := Lib.hid hq
  clear HL D2 hq ho i0 i1 i2 i3 i4 e0 e1 e2 e3 e4
  have z0 := Z5.out.c0
  have z1 := Z5.out.c1
  have z2 := Z5.out.c2
  have z3 := Z5.out.c3
  have z4 := Z5.out.c4
  have zf0 := Z5.out.f 0 (by omega)
  have zf1 := Z5.out.f 1 (by omega)
  have zf2 := Z5.out.f 2 (by omega)
  have zf3 := Z5.out.f 3 (by omega)
  have zf4 := Z5.out.f 4 (by omega)
  go_wp2_with fail
  generalize hV : World.setCell _ ⟨W.heap.size + 2, 4, none⟩ _ = V
  have hV' : setEv w5 (W.heap.size + 2) p1 w1 k1 a1 s1 = V := hV
  obtain ⟨ev, q4, o4⟩ := fin_q hV' Z5.out Q5.out O5.out (by omega) HQ.out
  clear hV hV' z0 z1 z2 z3 z4 zf0 zf1 zf2 zf3 zf4
  have x0 := ev.c0
  have x1 := ev.c1
  have x2 := ev.c2
  have x3 := ev.c3
  have x4 := ev.c4
  refine bodyPost_ret (v := .tuple #[.agg #[.int .u32 (p1 : Nat), .int .u32 (w1 : Nat), .int .i64 k1, .int .u32 (a1 : Nat), .int .i64 s1], .int .i64 t]) (by simp [results, Tryz.results54, go_sem, x0, x1, x2, x3, x4]) rfl ⟨rfl, q4, o4⟩
set_option maxRecDepth 100000 in
set_option maxHeartbeats 2000000 in
theorem do_store {C M pc : Nat} {r : Nat → Nat} {W : World} (h : MachIs C M pc r W) (o : Int) (d u v : Nat) (im : Int) (n : Nat) (hn : IntKind.u32.wrap im = (n : Int)) (hnb : n < 4294967296) (hu : u < 32) (hv : v < 32) (ho : 33 ≤ o ∧ o ≤ 35) (p w : Nat) (k : Int) (a : Nat) (s : Int) (at_ : Nat) (hat : ((r u : Int) + (n : Int)) % 4294967296 = (at_ : Int))
    (p1 w1 : Nat) (k1 : Int) (a1 : Nat) (s1 t : Int) {Q : World → Prop} {S : Nat → Prop} (hS : ∀ j, S j → j < W.heap.size) (hQ : ∀ B V V', W.heap.size ≤ B → Q V → Out (· = B) V V' → Q V')
    (hl : ∀ W', Below W.heap.size W W' → Calls Tryz.prog 80 #[.pointer (some ⟨C, 0, none⟩), .agg #[.int .i64 o, .int .i64 (d : Nat), .int .i64 (u : Nat), .int .i64 (v : Nat), .int .i32 im], .int .u32 (at_ : Nat), .int .u32 (r v : Nat), .agg #[.int .u32 (p : Nat), .int .u32 (w : Nat), .int .i64 k, .int .u32 (a : Nat), .int .i64 s]] W' (DoPost Q S W' (.agg #[.int .u32 (p1 : Nat), .int .u32 (w1 : Nat), .int .i64 k1, .int .u32 (a1 : Nat), .int .i64 s1]) t)) :
    Calls Tryz.prog 54 #[.pointer (some ⟨C, 0, none⟩), .agg #[.int .i64 o, .int .i64 (d : Nat), .int .i64 (u : Nat), .int .i64 (v : Nat), .int .i32 im], .agg #[.int .u32 (p : Nat), .int .u32 (w : Nat), .int .i64 k, .int .u32 (a : Nat), .int .i64 s]] W (DoPost Q S W (.agg #[.int .u32 (p1 : Nat), .int .u32 (w1 : Nat), .int .i64 k1, .int .u32 (a1 : Nat), .int .i64 s1]) t) := by
  have H := Lib.hid h
  have HL := Lib.hid hl
  have HQ := Lib.hid hQ
  have HS := Lib.hid hS
  have HN := Lib.hid hn
  have RA := Lib.hid (fun W' (hm : MachIs C M pc r W') => mreg_any hm u hu)
  have RB := Lib.hid (fun W' (hm : MachIs C M pc r W') => mreg_any hm v hv)
  have hpc := h.pcb
  have bu := h.rb u
  have bv := h.rb v
  have q0 : decide (o ≤ 18) = false := by simp; omega
  have q1 : decide (o ≤ 27) = false := by simp; omega
  have q2 : decide (o ≤ 32) = false := by simp; omega
  have q3 : decide (o ≤ 35) = true := by simp; omega
  have HY := Lib.hid hat
  clear hat
  clear h hl hQ hS hn
  go_enter Tryz.func54, Tryz.ntmps54
  go_wp2_with fail
  obtain ⟨g1, g2, g4, g3⟩ := three_alloc W (.cells #[.int .i64 o, .int .i64 (d : Nat), .int .i64 (u : Nat), .int .i64 (v : Nat), .int .i32 im] 34) (.cells #[.int .u32 (p : Nat), .int .u32 (w : Nat), .int .i64 k, .int .u32 (a : Nat), .int .i64 s] 39) (.cells #[.int .u32 0, .int .u32 0, .int .i64 0, .int .u32 0, .int .i64 0] 39)
  have D1 : DoAt C M pc r o d u v im p w k a s W _ := ⟨H.out.below g3, insAt_of g1, evAt_of g2, evAt_of (p := 0) (w := 0) (a := 0) g4, g3⟩
  clear g1 g2 g3 g4
  generalize World.alloc _ _ = W1 at *
  have i2 := D1.ins.c2
  have i3 := D1.ins.c3
  have i4 := D1.ins.c4
  have L1 := LikeG.refl W1
  have RA' := Lib.hid (fun W' (hm : LikeG W1 W') => RA.out W' (D1.mach.like hm))
  have RB' := Lib.hid (fun W' (hm : LikeG W1 W') => RB.out W' (D1.mach.like hm))
  have D2 := Lib.hid (D1.like (like_drew L1))
  clear D1 RA RB
  go_region_held3 (fun w' => w'.cell? ⟨W.heap.size, 2, none⟩ = some (.int .i64 (u : Nat)) ∧ w'.cell? ⟨W.heap.size, 3, none⟩ = some (.int .i64 (v : Nat)) ∧ w'.cell? ⟨W.heap.size, 4, none⟩ = some (.int .i32 im) ∧ LikeG W1 w')
    (first | (with_reducible assumption) | (exact ⟨i2, i3, i4, L1⟩) | (exact ⟨i2, i3, i4, like_drew L1⟩) | (obtain ⟨s2, s3, s4, s5⟩ := ‹_ ∧ _ ∧ _ ∧ LikeG W1 _›; first | exact ⟨s2, s3, s4, s5⟩ | exact ⟨s2, s3, s4, like_drew s5⟩))
    (first
    | (go_at_call 75; with_reducible refine (RA'.out _ (by first | exact L1 | exact like_drew L1 | (apply pick4; with_reducible assumption))).mono ?_; rintro e w8 ⟨rfl, rfl⟩)
    | (go_at_call 75; with_reducible refine (RB'.out _ (by first | exact L1 | exact like_drew L1 | (apply pick4; with_reducible assumption))).mono ?_; rintro e w8 ⟨rfl, rfl⟩))
  clear ‹_ ∧ _ ∧ _ ∧ LikeG W1 _›
  rw [HN.out]
  clear RA' RB' L1 i2 i3 i4
  generalize World.drew W1 = W2 at *
  have i0 := D2.out.ins.c0
  have i1 := D2.out.ins.c1
  have i2 := D2.out.ins.c2
  have i3 := D2.out.ins.c3
  have i4 := D2.out.ins.c4
  have e0 := D2.out.ev.c0
  have e1 := D2.out.ev.c1
  have e2 := D2.out.ev.c2
  have e3 := D2.out.ev.c3
  have e4 := D2.out.ev.c4
  go_wp2_with fail
  rw [HY.out]
  refine (HL.out _ D2.out.below).mono ?_
  rintro e w5 ⟨rfl, hq, ho⟩
  have Z5 := Lib.hid (D2.out.res.out ho (fun g => by have := HS.out _ g; omega))
  have O5 := Lib.hid ((Out.of_below S D2.out.below).trans ho)
  have Q5 := Lib.hid hq
  clear HL D2 hq ho i0 i1 i2 i3 i4 e0 e1 e2 e3 e4
  have z0 := Z5.out.c0
  have z1 := Z5.out.c1
  have z2 := Z5.out.c2
  have z3 := Z5.out.c3
  have z4 := Z5.out.c4
  have zf0 := Z5.out.f 0 (by omega)
  have zf1 := Z5.out.f 1 (by omega)
  have zf2 := Z5.out.f 2 (by omega)
  have zf3 := Z5.out.f 3 (by omega)
  have zf4 := Z5.out.f 4 (by omega)
  go_wp2_with fail
  generalize hV : World.setCell _ ⟨W.heap.size + 2, 4, none⟩ _ = V
  have hV' : setEv w5 (W.heap.size + 2) p1 w1 k1 a1 s1 = V := hV
  obtain ⟨ev, q4, o4⟩ := fin_q hV' Z5.out Q5.out O5.out (by omega) HQ.out
  clear hV hV' z0 z1 z2 z3 z4 zf0 zf1 zf2 zf3 zf4
  have x0 := ev.c0
  have x1 := ev.c1
  have x2 := ev.c2
  have x3 := ev.c3
  have x4 := ev.c4
  refine bodyPost_ret (v := .tuple #[.agg #[.int .u32 (p1 : Nat), .int .u32 (w1 : Nat), .int .i64 k1, .int .u32 (a1 : Nat), .int .i64 s1], .int .i64 t]) (by simp [results, Tryz.results54, go_sem, x0, x1, x2, x3, x4]) rfl ⟨rfl, q4, o4⟩
set_option maxRecDepth 100000 in
set_option maxHeartbeats 2000000 in
theorem do_lui {C M pc : Nat} {r : Nat → Nat} {W : World} (h : MachIs C M pc r W) (o : Int) (d u v : Nat) (im : Int) (n : Nat) (hn : IntKind.u32.wrap im = (n : Int)) (hnb : n < 4294967296) (hu : u < 32) (hv : v < 32) (ho : o = 42) (p w : Nat) (k : Int) (a : Nat) (s : Int) 
    (p1 w1 : Nat) (k1 : Int) (a1 : Nat) (s1 t : Int) {Q : World → Prop} {S : Nat → Prop} (hS : ∀ j, S j → j < W.heap.size) (hQ : ∀ B V V', W.heap.size ≤ B → Q V → Out (· = B) V V' → Q V')
    (hl : ∀ W', Below W.heap.size W W' → Calls Tryz.prog 77 #[.pointer (some ⟨C, 0, none⟩), .int .i64 (d : Nat), .int .u32 (n : Nat), .agg #[.int .u32 (p : Nat), .int .u32 (w : Nat), .int .i64 k, .int .u32 (a : Nat), .int .i64 s]] W' (DoPost Q S W' (.agg #[.int .u32 (p1 : Nat), .int .u32 (w1 : Nat), .int .i64 k1, .int .u32 (a1 : Nat), .int .i64 s1]) t)) :
    Calls Tryz.prog 54 #[.pointer (some ⟨C, 0, none⟩), .agg #[.int .i64 o, .int .i64 (d : Nat), .int .i64 (u : Nat), .int .i64 (v : Nat), .int .i32 im], .agg #[.int .u32 (p : Nat), .int .u32 (w : Nat), .int .i64 k, .int .u32 (a : Nat), .int .i64 s]] W (DoPost Q S W (.agg #[.int .u32 (p1 : Nat), .int .u32 (w1 : Nat), .int .i64 k1, .int .u32 (a1 : Nat), .int .i64 s1]) t) := by
  have H := Lib.hid h
  have HL := Lib.hid hl
  have HQ := Lib.hid hQ
  have HS := Lib.hid hS
  have HN := Lib.hid hn
  have RA := Lib.hid (fun W' (hm : MachIs C M pc r W') => mreg_any hm u hu)
  have RB := Lib.hid (fun W' (hm : MachIs C M pc r W') => mreg_any hm v hv)
  have hpc := h.pcb
  have bu := h.rb u
  have bv := h.rb v
  have q0 : decide (o ≤ 18) = false := by simp; omega
  have q1 : decide (o ≤ 27) = false := by simp; omega
  have q2 : decide (o ≤ 32) = false := by simp; omega
  have q3 : decide (o ≤ 35) = false := by simp; omega
  have q4 : decide (o ≤ 41) = false := by simp; omega
  have r0 : (o == 42) = true := by simp; omega
  clear ho
  clear h hl hQ hS hn
  go_enter Tryz.func54, Tryz.ntmps54
  go_wp2_with fail
  obtain ⟨g1, g2, g4, g3⟩ := three_alloc W (.cells #[.int .i64 o, .int .i64 (d : Nat), .int .i64 (u : Nat), .int .i64 (v : Nat), .int .i32 im] 34) (.cells #[.int .u32 (p : Nat), .int .u32 (w : Nat), .int .i64 k, .int .u32 (a : Nat), .int .i64 s] 39) (.cells #[.int .u32 0, .int .u32 0, .int .i64 0, .int .u32 0, .int .i64 0] 39)
  have D1 : DoAt C M pc r o d u v im p w k a s W _ := ⟨H.out.below g3, insAt_of g1, evAt_of g2, evAt_of (p := 0) (w := 0) (a := 0) g4, g3⟩
  clear g1 g2 g3 g4
  generalize World.alloc _ _ = W1 at *
  have i2 := D1.ins.c2
  have i3 := D1.ins.c3
  have i4 := D1.ins.c4
  have L1 := LikeG.refl W1
  have RA' := Lib.hid (fun W' (hm : LikeG W1 W') => RA.out W' (D1.mach.like hm))
  have RB' := Lib.hid (fun W' (hm : LikeG W1 W') => RB.out W' (D1.mach.like hm))
  have D2 := Lib.hid (D1.like (like_drew L1))
  clear D1 RA RB
  go_region_held3 (fun w' => w'.cell? ⟨W.heap.size, 2, none⟩ = some (.int .i64 (u : Nat)) ∧ w'.cell? ⟨W.heap.size, 3, none⟩ = some (.int .i64 (v : Nat)) ∧ w'.cell? ⟨W.heap.size, 4, none⟩ = some (.int .i32 im) ∧ LikeG W1 w')
    (first | (with_reducible assumption) | (exact ⟨i2, i3, i4, L1⟩) | (exact ⟨i2, i3, i4, like_drew L1⟩) | (obtain ⟨s2, s3, s4, s5⟩ := ‹_ ∧ _ ∧ _ ∧ LikeG W1 _›; first | exact ⟨s2, s3, s4, s5⟩ | exact ⟨s2, s3, s4, like_drew s5⟩))
    (first
    | (go_at_call 75; with_reducible refine (RA'.out _ (by first | exact L1 | exact like_drew L1 | (apply pick4; with_reducible assumption))).mono ?_; rintro e w8 ⟨rfl, rfl⟩)
    | (go_at_call 75; with_reducible refine (RB'.out _ (by first | exact L1 | exact like_drew L1 | (apply pick4; with_reducible assumption))).mono ?_; rintro e w8 ⟨rfl, rfl⟩))
  clear ‹_ ∧ _ ∧ _ ∧ LikeG W1 _›
  rw [HN.out]
  clear RA' RB' L1 i2 i3 i4
  generalize World.drew W1 = W2 at *
  have i0 := D2.out.ins.c0
  have i1 := D2.out.ins.c1
  have e0 := D2.out.ev.c0
  have e1 := D2.out.ev.c1
  have e2 := D2.out.ev.c2
  have e3 := D2.out.ev.c3
  have e4 := D2.out.ev.c4
  go_wp2_with fail
  refine (HL.out _ D2.out.below).mono ?_
  rintro e w5 ⟨rfl, hq, ho⟩
  have Z5 := Lib.hid (D2.out.res.out ho (fun g => by have := HS.out _ g; omega))
  have O5 := Lib.hid ((Out.of_below S D2.out.below).trans ho)
  have Q5 := Lib.hid hq
  clear HL D2 hq ho i0 i1 e0 e1 e2 e3 e4
  have z0 := Z5.out.c0
  have z1 := Z5.out.c1
  have z2 := Z5.out.c2
  have z3 := Z5.out.c3
  have z4 := Z5.out.c4
  have zf0 := Z5.out.f 0 (by omega)
  have zf1 := Z5.out.f 1 (by omega)
  have zf2 := Z5.out.f 2 (by omega)
  have zf3 := Z5.out.f 3 (by omega)
  have zf4 := Z5.out.f 4 (by omega)
  go_wp2_with fail
  generalize hV : World.setCell _ ⟨W.heap.size + 2, 4, none⟩ _ = V
  have hV' : setEv w5 (W.heap.size + 2) p1 w1 k1 a1 s1 = V := hV
  obtain ⟨ev, q4, o4⟩ := fin_q hV' Z5.out Q5.out O5.out (by omega) HQ.out
  clear hV hV' z0 z1 z2 z3 z4 zf0 zf1 zf2 zf3 zf4
  have x0 := ev.c0
  have x1 := ev.c1
  have x2 := ev.c2
  have x3 := ev.c3
  have x4 := ev.c4
  refine bodyPost_ret (v := .tuple #[.agg #[.int .u32 (p1 : Nat), .int .u32 (w1 : Nat), .int .i64 k1, .int .u32 (a1 : Nat), .int .i64 s1], .int .i64 t]) (by simp [results, Tryz.results54, go_sem, x0, x1, x2, x3, x4]) rfl ⟨rfl, q4, o4⟩
end Go.Proofs.YtmlhoagcppofgaaGreatDoor
