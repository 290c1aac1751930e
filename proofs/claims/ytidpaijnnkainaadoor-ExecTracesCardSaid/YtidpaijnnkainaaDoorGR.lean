/- The document's machine: set, jump, alu, taken. -/
import Derived.Test.YtidpaijnnkainaaDoorGO
import Derived.Test.YtidpaijnnkainaaDoorGG
import Derived.Test.YtidpaijnnkainaaDoorGK
namespace Go.Proofs.YtidpaijnnkainaaDoor
open Go Go.RowKit Pl
set_option linter.unusedVariables false

theorem rcset_none {Y X pc : Nat} {r : Nat → Nat} {W : World} (h : MachIs Y X pc r W) (x : Int) (to : Nat) (hto : to < 4294967296) :
    Calls Tryd.prog 64 #[.pointer (some ⟨Y, 0, none⟩), .int .i64 0, .int .u32 x, .int .u32 (to : Nat)] W fun e w' => e = .returned (.int .i64 0) ∧ MachIs Y X to r w' ∧ Out (· = Y) W w' := by
  have c1 := h.c1
  have f1 := h.fz 1 (by omega)
  have H := Lib.hid h
  clear h
  go_enter Tryd.func64, Tryd.ntmps64
  go_wp2_with fail
  go_ret
  exact ⟨rfl, H.out.setPc to hto, out_cell _ _ _ _⟩
theorem rcset_pos {Y X pc : Nat} {r : Nat → Nat} {W : World} (h : MachIs Y X pc r W) (d x : Nat) (h0 : 1 ≤ d) (hd : d < 32) (hx : x < 4294967296) (to : Nat) (hto : to < 4294967296) :
    Calls Tryd.prog 64 #[.pointer (some ⟨Y, 0, none⟩), .int .i64 (d : Nat), .int .u32 (x : Nat), .int .u32 (to : Nat)] W fun e w' => e = .returned (.int .i64 0) ∧ MachIs Y X to (setR r d x) w' ∧ Out (· = Y) W w' := by
  have c1 := h.c1
  have f1 := h.fz 1 (by omega)
  have cd := h.c d hd
  have fd := h.fz (2 + d) (by omega)
  have h2 : (0 : Int) < d := by omega
  have h1 : (d : Int) < 32 := by omega
  have hne : 1 ≠ 2 + d := by omega
  have H := Lib.hid h
  clear h
  go_enter Tryd.func64, Tryd.ntmps64
  go_wp2_with fail
  go_ret
  exact ⟨rfl, (H.out.setReg d x h0 hd hx).setPc to hto, (out_cell _ _ _ _).trans (out_cell _ _ _ _)⟩
theorem rcset_any {Y X pc : Nat} {r : Nat → Nat} {W : World} (h : MachIs Y X pc r W) (d x : Nat) (hd : d < 32) (hx : x < 4294967296) (to : Nat) (hto : to < 4294967296) :
    Calls Tryd.prog 64 #[.pointer (some ⟨Y, 0, none⟩), .int .i64 (d : Nat), .int .u32 (x : Nat), .int .u32 (to : Nat)] W fun e w' => e = .returned (.int .i64 0) ∧ MachIs Y X to (setR r d x) w' ∧ Out (· = Y) W w' := by
  rcases Nat.eq_zero_or_pos d with e | e
  · subst e
    rw [setR_zero]
    exact rcset_none h x to hto
  · exact rcset_pos h d x e hd hx to hto
def ifA {α : Type} (to : Nat) (x y : α) : α := if to % 4 = 0 then x else y
theorem ifA_yes {α : Type} {to : Nat} (h : to % 4 = 0) (x y : α) : ifA to x y = x := if_pos h
theorem ifA_no {α : Type} {to : Nat} (h : to % 4 ≠ 0) (x y : α) : ifA to x y = y := if_neg h
set_option maxHeartbeats 1000000 in
theorem rcjump_no (Y to : Nat) (d : Int) (W : World) (ht : to < 4294967296) (h4 : to % 4 ≠ 0) :
    Calls Tryd.prog 68 #[.pointer (some ⟨Y, 0, none⟩), .int .u32 (to : Nat), .int .i64 d] W fun e w' => e = .returned (.int .i64 1) ∧ W = w' := by
  have t : (((to : Int) % 4) == 0) = false := by simp; omega
  have t' : (((to : Int) % 4) != 0) = true := by simp; omega
  clear h4
  go_enter Tryd.func68, Tryd.ntmps68
  go_wp2_with fail
  go_ret
  exact ⟨rfl, rfl⟩
set_option maxHeartbeats 1000000 in
theorem rcjump_yes {Y X pc : Nat} {r r' : Nat → Nat} {W : World} (h : MachIs Y X pc r W) (to : Nat) (d : Int) (ht : to < 4294967296) (h4 : to % 4 = 0)
    (hs : Calls Tryd.prog 64 #[.pointer (some ⟨Y, 0, none⟩), .int .i64 d, .int .u32 ((pc + 4) % 4294967296 : Nat), .int .u32 (to : Nat)] W fun e w' => e = .returned (.int .i64 0) ∧ MachIs Y X to r' w' ∧ Out (· = Y) W w') :
    Calls Tryd.prog 68 #[.pointer (some ⟨Y, 0, none⟩), .int .u32 (to : Nat), .int .i64 d] W fun e w' => e = .returned (.int .i64 0) ∧ MachIs Y X to r' w' ∧ Out (· = Y) W w' := by
  have t : (((to : Int) % 4) == 0) = true := by simp; omega
  have t' : (((to : Int) % 4) != 0) = false := by simp; omega
  have c1 := h.c1
  have hpc := h.pcb
  have epc : (((pc + 4) % 4294967296 : Nat) : Int) = ((pc : Int) + 4) % 4294967296 := by omega
  rw [epc] at hs
  have HS := Lib.hid hs
  clear h h4 hs epc
  go_enter Tryd.func68, Tryd.ntmps68
  go_wp2_with fail
  (refine HS.out.mono ?_)
  rintro e w' ⟨rfl, h1, h2⟩
  go_wp2_with fail
  go_ret
  exact ⟨rfl, h1, h2⟩
theorem rcjump_any {Y X pc : Nat} {r : Nat → Nat} {W : World} (h : MachIs Y X pc r W) (to d : Nat) (ht : to < 4294967296) (hd : d < 32) :
    Calls Tryd.prog 68 #[.pointer (some ⟨Y, 0, none⟩), .int .u32 (to : Nat), .int .i64 (d : Nat)] W fun e w' => e = .returned (.int .i64 (ifA to 0 1)) ∧ MachIs Y X (ifA to to pc) (ifA to (setR r d ((pc + 4) % 4294967296)) r) w' ∧ Out (· = Y) W w' := by
  by_cases h4 : to % 4 = 0
  · rw [ifA_yes h4, ifA_yes h4, ifA_yes h4]
    exact rcjump_yes h to d ht h4 (rcset_any h d _ hd (by omega) to ht)
  · rw [ifA_no h4, ifA_no h4, ifA_no h4]
    refine (rcjump_no Y to d W ht h4).mono ?_
    rintro e w' ⟨rfl, rfl⟩
    exact ⟨rfl, h, .refl _ _⟩
theorem rcjump_none {Y X pc : Nat} {r : Nat → Nat} {W : World} (h : MachIs Y X pc r W) (to : Nat) (ht : to < 4294967296) :
    Calls Tryd.prog 68 #[.pointer (some ⟨Y, 0, none⟩), .int .u32 (to : Nat), .int .i64 0] W fun e w' => e = .returned (.int .i64 (ifA to 0 1)) ∧ MachIs Y X (ifA to to pc) r w' ∧ Out (· = Y) W w' := by
  have k := rcjump_any h to 0 ht (by decide)
  have e : ifA to (setR r 0 ((pc + 4) % 4294967296)) r = r := by rw [setR_zero]; unfold ifA; split <;> rfl
  rw [e] at k
  exact k
theorem rcalu_any (op a b : Int) (W : World) (p0 : 1 ≤ op) (p1 : op ≤ 18) (h0 : 0 ≤ a) (h1 : a < 4294967296) (g0 : 0 ≤ b) (g1 : b < 4294967296) :
    Calls Tryd.prog 65 #[.int .i64 op, .int .u32 a, .int .u32 b] W fun e w' => e = .returned (.int .u32 (aluS op a b)) ∧ LikeG W w' := by
  have AL := Lib.hid (ref1_alu op a b W p0 p1 h0 h1 g0 g1)
  clear p0 p1
  go_enter Tryd.func65, Tryd.ntmps65
  go_wp2_with fail
  refine AL.out.mono ?_
  rintro e w' ⟨rfl, n, rfl⟩
  go_wp2_with fail
  go_ret
  exact ⟨rfl, .drewN _ _⟩
set_option maxRecDepth 100000 in
set_option maxHeartbeats 1000000 in
theorem rtaken_any (o : Int) (a b : Nat) (W : World) (ho : 36 ≤ o ∧ o ≤ 41) (ha : a < 4294967296) (hb : b < 4294967296) : Calls Tryd.prog 67 #[.int .i64 o, .int .u32 (a : Nat), .int .u32 (b : Nat)] W fun e w' => e = .returned (.bool (takenS o a b)) ∧ W = w' := by
  have SA := Lib.hid (fun W' => ref1_signed (a : Int) W' (by omega) (by omega))
  have SB := Lib.hid (fun W' => ref1_signed (b : Int) W' (by omega) (by omega))
  have eab : (sg (a : Int) = sg (b : Int)) ↔ a = b := by unfold sg; split <;> split <;> omega
  have EAB := Lib.hid eab
  clear eab
  obtain rfl | rfl | rfl | rfl | rfl | rfl : o = 36 ∨ o = 37 ∨ o = 38 ∨ o = 39 ∨ o = 40 ∨ o = 41 := by omega
  all_goals go_enter Tryd.func67, Tryd.ntmps67
  all_goals go_wp2_with (go_at_call 98; first | (with_reducible refine (SA.out _).mono ?_; rintro e w' ⟨rfl, rfl⟩) | (with_reducible refine (SB.out _).mono ?_; rintro e w' ⟨rfl, rfl⟩))
  all_goals go_ret
  all_goals refine ⟨ret_bool ?_, rfl⟩
  all_goals have eab := EAB.out
  all_goals simp [takenS]
  all_goals (rw [Bool.eq_iff_iff]; simp; try omega)
end Go.Proofs.YtidpaijnnkainaaDoor

namespace Go.Proofs.YtidpaijnnkainaaDoor
open Go Go.RowKit Pl
set_option linter.unusedVariables false

/-- where the document's machine may change -/
def RY (Y X : Nat) (v : Value) (j : Nat) : Prop := j = Y ∨ RS X v j
/-- the document's machine over its memory, as far as it has come from W; own blocks of its memory are elder ones, or from b0 on -/
structure RSt (Y X B f n1 rr n2 pc : Nat) (r : Nat → Nat) (L : List (Nat × Nat)) (v : Value) (b0 : Nat) (W V : World) : Prop where
  mach : MachIs Y X pc r V
  out : Out (RY Y X v) W V
  mem : ∃ v', RefIs X B f n1 rr n2 L v' V ∧ ∀ j, v'.ownBlock = some j → v.ownBlock = some j ∨ b0 ≤ j
theorem RefIs.own_lt {X B f n1 r n2 : Nat} {L : List (Nat × Nat)} {v : Value} {W : World} (h : RefIs X B f n1 r n2 L v W) (j : Nat) (hj : v.ownBlock = some j) : B ≤ j ∧ j < W.heap.size := by
  rcases h.own.2 with ⟨rfl, _⟩ | ⟨g, cap, cur, rfl, h1, h2, _⟩
  · cases hj
  · obtain rfl : g = j := Option.some.inj hj
    exact ⟨h1, (Array.getElem?_eq_some_iff.1 h2).1⟩
theorem RSt.step {Y X B f n1 rr n2 pc k : Nat} {r : Nat → Nat} {L : List (Nat × Nat)} {v : Value} {b0 : Nat} {W V V' : World} (h : RSt Y X B f n1 rr n2 pc r L v b0 W V) (ho : Out (· = k) V V') (h1 : W.heap.size ≤ k) (h2 : k < b0) (hY : Y < W.heap.size) (hX : X < W.heap.size) (hv : ∀ j, v.ownBlock = some j → j < W.heap.size) : RSt Y X B f n1 rr n2 pc r L v b0 W V' := by
  obtain ⟨v', m1, m2⟩ := h.mem
  refine ⟨h.mach.out ho (by omega), ?_, v', m1.out ho (by omega) (fun j hj e => ?_), m2⟩
  · exact ⟨ho.os.trans h.out.os, ho.tape.trans h.out.tape, ho.output.trans h.out.output, Nat.le_trans h.out.size ho.size, fun j hj hs => (ho.block j (Nat.lt_of_lt_of_le hj h.out.size) (by omega)).trans (h.out.block j hj hs)⟩
  · rcases m2 j hj with g | g
    · have := hv j g; omega
    · omega
theorem RSt.fin {Y X B f n1 rr n2 pc RB : Nat} {r : Nat → Nat} {L : List (Nat × Nat)} {v : Value} {b0 : Nat} {W w3 V : World} {p w p' w' : Nat} {k k' : Int} {a a' : Nat} {s s' : Int} (hV : setEv w3 RB p w k a s = V) (hz : EvAt RB p' w' k' a' s' w3) (h : RSt Y X B f n1 rr n2 pc r L v b0 W w3)
    (h1 : W.heap.size ≤ RB) (h2 : RB < b0) (hY : Y < W.heap.size) (hX : X < W.heap.size) (hv : ∀ j, v.ownBlock = some j → j < W.heap.size) : EvAt RB p w k a s V ∧ RSt Y X B f n1 rr n2 pc r L v b0 W V := by
  have ev := setEv_at hz p w k a s
  have o4 := setEv_out w3 RB p w k a s
  rw [hV] at ev o4
  exact ⟨ev, h.step o4 h1 h2 hY hX hv⟩
/-- nothing has happened yet -/
theorem RSt.of {Y X B f n1 rr n2 pc : Nat} {r : Nat → Nat} {L : List (Nat × Nat)} {v : Value} {W V : World} (hm : MachIs Y X pc r W) (hr : RefIs X B f n1 rr n2 L v W) (hb : Below W.heap.size W V) (b0 : Nat) : RSt Y X B f n1 rr n2 pc r L v b0 W V :=
  ⟨hm.below hb, .of_below _ hb, v, hr.out (.of_below (fun _ => False) hb) id (fun _ _ => id), fun j hj => .inl hj⟩
/-- the machine's own block has turned -/
theorem RSt.ofY {Y X B f n1 rr n2 pc pc' : Nat} {r r' : Nat → Nat} {L : List (Nat × Nat)} {v : Value} {b0 : Nat} {W V V' : World} (h : RSt Y X B f n1 rr n2 pc r L v b0 W V) (hm : MachIs Y X pc' r' V') (ho : Out (· = Y) V V') (hYX : Y ≠ X) (hYB : Y < B) (hYW : Y < W.heap.size) : RSt Y X B f n1 rr n2 pc' r' L v b0 W V' := by
  obtain ⟨v', m1, m2⟩ := h.mem
  refine ⟨hm, h.out.trans (ho.mono fun j e => .inl e), v', m1.out ho (fun e => hYX e.symm) (fun j hj e => ?_), m2⟩
  have := m1.own_lt j hj
  omega
/-- a store of the document's memory -/
theorem RSt.ofS {Y X B f n1 rr n2 pc : Nat} {r : Nat → Nat} {L' : List (Nat × Nat)} {v v' : Value} {W V V' : World} (hm : MachIs Y X pc r V) (hb : Below W.heap.size W V) (hr : RefIs X B f n1 rr n2 L' v' V') (ho : Out (RS X v) V V') (hf : Fresh v v' V) (hYX : Y ≠ X) (hYB : Y < B) (hv : ∀ j, v.ownBlock = some j → B ≤ j) : RSt Y X B f n1 rr n2 pc r L' v V.heap.size W V' :=
  ⟨hm.out ho (fun g => by rcases g with g | g; exact hYX g; have := hv _ g; omega), (Out.of_below _ hb).trans (ho.mono fun j e => .inr e), v', hr, hf⟩
theorem four_alloc (W : World) (o1 o2 o3 o4 : Obj) : ((((W.alloc o1).alloc o2).alloc o3).alloc o4).heap[W.heap.size]? = some o1 ∧ ((((W.alloc o1).alloc o2).alloc o3).alloc o4).heap[W.heap.size + 1]? = some o2 ∧ ((((W.alloc o1).alloc o2).alloc o3).alloc o4).heap[W.heap.size + 2]? = some o3 ∧ ((((W.alloc o1).alloc o2).alloc o3).alloc o4).heap[W.heap.size + 3]? = some o4 ∧ Below W.heap.size W ((((W.alloc o1).alloc o2).alloc o3).alloc o4) := by
  obtain ⟨h1, h2, h3, h4⟩ := three_alloc W o1 o2 o3
  have sz : (((W.alloc o1).alloc o2).alloc o3).heap.size = W.heap.size + 3 := by simp
  refine ⟨?_, ?_, ?_, ?_, h4.alloc (by omega) _⟩
  · rw [heap_alloc_old _ _ (by omega)]; exact h1
  · rw [heap_alloc_old _ _ (by omega)]; exact h2
  · rw [heap_alloc_old _ _ (by omega)]; exact h3
  · rw [← sz, heap_alloc_new]
theorem row8 (o : Int) (j : Nat) (hj : o - 28 = (j : Int)) (hj8 : j < 8) : (#[.int .i64 1, .int .i64 2, .int .i64 4, .int .i64 1, .int .i64 2, .int .i64 1, .int .i64 2, .int .i64 4] : Array Value)[j]? = some (.int .i64 (sizeC o : Nat)) := by
  obtain rfl : o = 28 + (j : Int) := by omega
  obtain rfl | rfl | rfl | rfl | rfl | rfl | rfl | rfl : j = 0 ∨ j = 1 ∨ j = 2 ∨ j = 3 ∨ j = 4 ∨ j = 5 ∨ j = 6 ∨ j = 7 := by omega
  all_goals simp [sizeC]
set_option maxRecDepth 100000 in
set_option maxHeartbeats 2000000 in
theorem rmem_load_trap {Y X pc : Nat} {r : Nat → Nat} {W : World} (h : MachIs Y X pc r W) (o : Int) (d u v : Nat) (im : Int) (ho : 28 ≤ o ∧ o ≤ 32) (at_ : Nat) (x : Nat) (t : Int) (ht : t ≠ 0)
    (hl : ∀ W', Below W.heap.size W W' → Calls Tryd.prog 96 #[.pointer (some ⟨X, 0, none⟩), .int .u32 (at_ : Nat), .int .i64 (sizeC o : Nat)] W' (LoadPost W' x t)) :
    Calls Tryd.prog 66 #[.pointer (some ⟨Y, 0, none⟩), .agg #[.int .i64 o, .int .i64 (d : Nat), .int .i64 (u : Nat), .int .i64 (v : Nat), .int .i32 im], .int .u32 (at_ : Nat)] W fun e w' => e = .returned (.tuple #[.agg #[.int .u32 0, .int .u32 0, .int .i64 0, .int .u32 0, .int .i64 0], .int .i64 t]) ∧ Below W.heap.size W w' := by
  obtain ⟨j, hj, hj8⟩ : ∃ j : Nat, o - 28 = (j : Int) ∧ j < 8 := ⟨(o - 28).toNat, by omega, by omega⟩
  have ROW := row8 o j hj hj8
  have RO := Lib.hid ROW
  have hY := h.lt
  have H := Lib.hid h
  have hpc := h.pcb
  have LD := Lib.hid hl
  have q0 : decide (o ≥ 33) = false := by simp; omega
  have q1 : decide (33 ≤ o) = false := by simp; omega
  have tt : (t == 0) = false := by simp; omega
  have tt' : (t != 0) = true := by simp; omega
  have hj9 : (j : Int) < 8 := by omega
  clear h hl ht ho
  go_enter Tryd.func66, Tryd.ntmps66
  go_upto_region 2 with (fail)
  obtain ⟨g1, g2, g4, g3⟩ := three_alloc W (.cells #[.int .i64 o, .int .i64 (d : Nat), .int .i64 (u : Nat), .int .i64 (v : Nat), .int .i32 im] 85) (.cells #[.int .u32 0, .int .u32 0, .int .i64 0, .int .u32 0, .int .i64 0] 76) (.cells #[.int .i64 1, .int .i64 2, .int .i64 4, .int .i64 1, .int .i64 2, .int .i64 1, .int .i64 2, .int .i64 4] 3)
  have I1 := Lib.hid (insAt_of g1)
  have Z1 := Lib.hid (evAt_of (p := 0) (w := 0) (a := 0) g2)
  have B1 := Lib.hid g3
  have rc := (cell_of_row _ (W.heap.size + 2) j _ _ _ g4).trans ROW
  have sz1 : (((W.alloc (.cells #[.int .i64 o, .int .i64 (d : Nat), .int .i64 (u : Nat), .int .i64 (v : Nat), .int .i32 im] 85)).alloc (.cells #[.int .u32 0, .int .u32 0, .int .i64 0, .int .u32 0, .int .i64 0] 76)).alloc (.cells #[.int .i64 1, .int .i64 2, .int .i64 4, .int .i64 1, .int .i64 2, .int .i64 1, .int .i64 2, .int .i64 4] 3)).heap.size = W.heap.size + 3 := by simp
  clear g1 g2 g3 g4 ROW
  generalize World.alloc _ _ = W1 at *
  have i0 := I1.out.c0
  have c0 := (H.out.below B1.out).c0
  go_upto_region 4 with (fail)
  have E4 := Lib.hid (evAt_of (p := 0) (w := 0) (a := at_) (heap_alloc_new W1 (.cells #[.int .u32 0, .int .u32 0, .int .i64 2, .int .u32 (at_ : Nat), .int .i64 (sizeC o : Nat)] 76)))
  have B4 := Lib.hid (B1.out.alloc B1.out.size (.cells #[.int .u32 0, .int .u32 0, .int .i64 2, .int .u32 (at_ : Nat), .int .i64 (sizeC o : Nat)] 76))
  have Z4 := Lib.hid (Z1.out.out (Out.of_below (fun _ => False) ((Below.refl W1.heap.size W1).alloc (Nat.le_refl _) (.cells #[.int .u32 0, .int .u32 0, .int .i64 2, .int .u32 (at_ : Nat), .int .i64 (sizeC o : Nat)] 76))) id)
  have I4 := Lib.hid (I1.out.out (Out.of_below (fun _ => False) ((Below.refl W1.heap.size W1).alloc (Nat.le_refl _) (.cells #[.int .u32 0, .int .u32 0, .int .i64 2, .int .u32 (at_ : Nat), .int .i64 (sizeC o : Nat)] 76))) id)
  have sz4 : (W1.alloc (.cells #[.int .u32 0, .int .u32 0, .int .i64 2, .int .u32 (at_ : Nat), .int .i64 (sizeC o : Nat)] 76)).heap.size = W.heap.size + 4 := by simp; omega
  rw [sz1] at E4
  clear I1 Z1 rc i0 c0
  generalize World.alloc _ _ = W4 at *
  have i0 := I4.out.c0
  have c0 := (H.out.below B4.out).c0
  go_wp2_with fail
  refine (LD.out W4 B4.out).mono ?_
  rintro e w5 ⟨rfl, hlk⟩
  have Z5 := Lib.hid (Z4.out.out (hlk.out (fun _ => False)) id)
  have B5 := Lib.hid (hlk.2 _ _ B4.out)
  clear Z4 B4 E4 I4 LD hlk i0 c0
  have z0 := Z5.out.c0
  have z1 := Z5.out.c1
  have z2 := Z5.out.c2
  have z3 := Z5.out.c3
  have z4 := Z5.out.c4
  have zf0 := Z5.out.f 0 (by omega)
  have zf1 := Z5.out.f 1 (by omega)
  have zf2 := Z5.out.f 2 (by omega)
  have zf3 := Z5.out.f 3 (by omega)
  have zf4 := Z5.out.f 4 (by omega)
  go_wp2_with fail
  generalize hV : World.setCell _ ⟨W.heap.size + 1, 4, none⟩ _ = V
  have hV' : setEv w5 (W.heap.size + 1) 0 0 0 0 0 = V := hV
  have ev := setEv_at Z5.out 0 0 0 0 0
  have o4 := setEv_out w5 (W.heap.size + 1) 0 0 0 0 0
  rw [hV'] at ev o4
  clear hV hV' z0 z1 z2 z3 z4 zf0 zf1 zf2 zf3 zf4
  have x0 := ev.c0
  have x1 := ev.c1
  have x2 := ev.c2
  have x3 := ev.c3
  have x4 := ev.c4
  refine bodyPost_ret (v := .tuple #[.agg #[.int .u32 ((0 : Nat) : Int), .int .u32 ((0 : Nat) : Int), .int .i64 0, .int .u32 ((0 : Nat) : Int), .int .i64 0], .int .i64 t]) (by simp [results, Tryd.results66, go_sem, x0, x1, x2, x3, x4]) rfl ⟨rfl, o4.below B5.out (Nat.le_refl _) (fun j e => by subst e; omega)⟩
theorem sizeC_is' (o : Int) : sizeC o = 1 ∨ sizeC o = 2 ∨ sizeC o = 4 := by unfold sizeC; split; simp; split <;> simp
end Go.Proofs.YtidpaijnnkainaaDoor
