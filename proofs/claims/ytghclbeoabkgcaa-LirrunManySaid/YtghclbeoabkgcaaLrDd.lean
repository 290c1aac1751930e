/- Contract of one step of the program's machine for loop programs: more operations. -/
import Derived.Test.YtghclbeoabkgcaaLrDa
namespace Go.Proofs.Ytghclbeoabkgcaa
open Go Go.RowKit Pl
set_option linter.unusedVariables false

set_option maxRecDepth 100000 in
set_option maxHeartbeats 4000000 in
theorem do_14 (B D A E : Nat) (mp : Option Addr) (imm : Int) (f : Nat → Int) (w : World) (hD : D < 64) (hA : A < 64) (hE : E < 64) (hm : MachV B mp f w) (hf : WordsF f) (hi : 0 ≤ imm ∧ imm ≤ 31) :
    Calls Try.prog 42 #[.pointer (some ⟨B, 0, none⟩), .agg #[.int .i64 14, .int .i64 D, .int .i64 A, .int .i64 E, .int .i32 imm]] w fun e w' => e = .returned (.int .i64 0) ∧ MachV B mp (upd f D (f A * 2 ^ imm.toNat % 4294967296)) w' ∧ w.grownBy w' (some B) := by
  have cA := hm.v A hA
  have cE := hm.v E hE
  have cD := hm.v D hD
  have zD := hm.fz D (by omega)
  have lt := hm.lt
  have gA : (A : Int) < 64 := by omega
  have gE : (E : Int) < 64 := by omega
  have gD : (D : Int) < 64 := by omega
  have pA : (0 : Int) ≤ (A : Int) := by omega
  have pE : (0 : Int) ≤ (E : Int) := by omega
  have pD : (0 : Int) ≤ (D : Int) := by omega
  have M2 := Lib.hid (((machV_set (x := f A * 2 ^ imm.toNat % 4294967296) hm hD).grown (w' := (w.setCell ⟨B, D, none⟩ (.int .u32 (f A * 2 ^ imm.toNat % 4294967296))).alloc (.cells #[.int .i64 14, .int .i64 D, .int .i64 A, .int .i64 E, .int .i32 imm] 29)) ((Below.refl _ _).alloc (Nat.le_refl _) _)).drew).drew
  have G2 := Lib.hid (grownS_drew (grownS_drew (grownS_alloc (grownS_set (k := D) (x := .int .u32 (f A * 2 ^ imm.toNat % 4294967296)) (World.grownBy.refl w (some B))) (.cells #[.int .i64 14, .int .i64 D, .int .i64 A, .int .i64 E, .int .i32 imm] 29))))
  clear hm hf
  go_enter Try.func42, Try.ntmps42
  go_wp2_with fail
  go_region
  go_wp2_with fail
  go_region
  generalize World.drew (World.drew _) = W2 at *
  clear cA cE cD zD
  go_wp2_with fail
  go_ret
  exact ⟨rfl, M2.out, G2.out⟩

set_option maxRecDepth 100000 in
set_option maxHeartbeats 4000000 in
theorem do_15 (B D A E : Nat) (mp : Option Addr) (imm : Int) (f : Nat → Int) (w : World) (hD : D < 64) (hA : A < 64) (hE : E < 64) (hm : MachV B mp f w) (hf : WordsF f) (hi : 0 ≤ imm ∧ imm ≤ 31) :
    Calls Try.prog 42 #[.pointer (some ⟨B, 0, none⟩), .agg #[.int .i64 15, .int .i64 D, .int .i64 A, .int .i64 E, .int .i32 imm]] w fun e w' => e = .returned (.int .i64 0) ∧ MachV B mp (upd f D (f A / 2 ^ imm.toNat)) w' ∧ w.grownBy w' (some B) := by
  have cA := hm.v A hA
  have cE := hm.v E hE
  have cD := hm.v D hD
  have zD := hm.fz D (by omega)
  have lt := hm.lt
  have gA : (A : Int) < 64 := by omega
  have gE : (E : Int) < 64 := by omega
  have gD : (D : Int) < 64 := by omega
  have pA : (0 : Int) ≤ (A : Int) := by omega
  have pE : (0 : Int) ≤ (E : Int) := by omega
  have pD : (0 : Int) ≤ (D : Int) := by omega
  have M2 := Lib.hid (((machV_set (x := f A / 2 ^ imm.toNat) hm hD).grown (w' := (w.setCell ⟨B, D, none⟩ (.int .u32 (f A / 2 ^ imm.toNat))).alloc (.cells #[.int .i64 15, .int .i64 D, .int .i64 A, .int .i64 E, .int .i32 imm] 29)) ((Below.refl _ _).alloc (Nat.le_refl _) _)).drew).drew
  have G2 := Lib.hid (grownS_drew (grownS_drew (grownS_alloc (grownS_set (k := D) (x := .int .u32 (f A / 2 ^ imm.toNat)) (World.grownBy.refl w (some B))) (.cells #[.int .i64 15, .int .i64 D, .int .i64 A, .int .i64 E, .int .i32 imm] 29))))
  clear hm hf
  go_enter Try.func42, Try.ntmps42
  go_wp2_with fail
  go_region
  go_wp2_with fail
  go_region
  generalize World.drew (World.drew _) = W2 at *
  clear cA cE cD zD
  go_wp2_with fail
  go_ret
  exact ⟨rfl, M2.out, G2.out⟩

set_option maxRecDepth 100000 in
set_option maxHeartbeats 4000000 in
theorem do_16 (B D A E : Nat) (mp : Option Addr) (imm : Int) (f : Nat → Int) (w : World) (hD : D < 64) (hA : A < 64) (hE : E < 64) (hm : MachV B mp f w) (hf : WordsF f) (hi : 0 ≤ imm ∧ imm ≤ 31) :
    Calls Try.prog 42 #[.pointer (some ⟨B, 0, none⟩), .agg #[.int .i64 16, .int .i64 D, .int .i64 A, .int .i64 E, .int .i32 imm]] w fun e w' => e = .returned (.int .i64 0) ∧ MachV B mp (upd f D (sg (f A) / 2 ^ imm.toNat % 4294967296)) w' ∧ w.grownBy w' (some B) := by
  have cA := hm.v A hA
  have cE := hm.v E hE
  have cD := hm.v D hD
  have zD := hm.fz D (by omega)
  have lt := hm.lt
  have gA : (A : Int) < 64 := by omega
  have gE : (E : Int) < 64 := by omega
  have gD : (D : Int) < 64 := by omega
  have pA : (0 : Int) ≤ (A : Int) := by omega
  have pE : (0 : Int) ≤ (E : Int) := by omega
  have pD : (0 : Int) ≤ (D : Int) := by omega
  have fA := hf A
  have SI := Lib.hid (fun w => num_signed (f A) w (by omega) (by omega))
  have n0 : ¬ imm < 0 := by omega
  have HM := Lib.hid hm
  have bW : Below w.heap.size w (w.alloc (.cells #[.int .i64 16, .int .i64 D, .int .i64 A, .int .i64 E, .int .i32 imm] 29)).drew := ((Below.refl _ _).alloc (Nat.le_refl _) _).drew
  clear hm hf fA
  go_enter Try.func42, Try.ntmps42
  go_wp2_with fail
  go_region
  go_wp2_with fail
  have hS0 : (w.alloc (.cells #[.int .i64 16, .int .i64 D, .int .i64 A, .int .i64 E, .int .i32 imm] 29)).drew.cell? ⟨w.heap.size, 0, none⟩ = some (.int .i64 16) ∧ (w.alloc (.cells #[.int .i64 16, .int .i64 D, .int .i64 A, .int .i64 E, .int .i32 imm] 29)).drew.cell? ⟨w.heap.size, 1, none⟩ = some (.int .i64 D) ∧ w.heap.size < (w.alloc (.cells #[.int .i64 16, .int .i64 D, .int .i64 A, .int .i64 E, .int .i32 imm] 29)).drew.heap.size := ⟨by simp, by simp, by simp⟩
  generalize World.drew (World.alloc _ _) = W at *
  have hS : W.drew.cell? ⟨w.heap.size, 0, none⟩ = some (.int .i64 16) ∧ W.drew.cell? ⟨w.heap.size, 1, none⟩ = some (.int .i64 D) ∧ w.heap.size < W.drew.heap.size := hS0
  clear cA cE cD zD hS0
  refine wp_region_held_drew (S := (fun w' => w'.cell? ⟨w.heap.size, 0, none⟩ = some (.int .i64 16) ∧ w'.cell? ⟨w.heap.size, 1, none⟩ = some (.int .i64 D) ∧ w.heap.size < w'.heap.size)) (by kernel_rfl) (by exact hS) (fun hHeld => ?_)
  refine wpAnyH_take (i := 0) (oi := _) (v := ?v0) rfl (by kernel_rfl) (by kernel_rfl) (by kernel_rfl) (fun _ _ _ h => h) (Or.inl ⟨by rfl, ?y0⟩) hHeld ?r0
  case y0 => (intro wq hSw; (try dsimp only at hSw); go_simp; try with_reducible rfl)
  try simp only [Act.put, List.getElem_toArray, List.getElem_cons_zero, List.setIfInBounds_toArray, List.set_cons_zero, List.set_cons_succ]
  refine wpAnyH_take (i := 1) (oi := _) (v := ?v1) rfl (by kernel_rfl) (by kernel_rfl) (by kernel_rfl) (fun _ _ _ h => h) (Or.inl ⟨by rfl, ?y1⟩) hHeld ?r1
  case y1 => (intro wq hSw; (try dsimp only at hSw); go_simp; try with_reducible rfl)
  try simp only [Act.put, List.getElem_toArray, List.getElem_cons_zero, List.getElem_cons_succ, List.setIfInBounds_toArray, List.set_cons_zero, List.set_cons_succ]
  refine wpAnyH_take (i := 2) (oi := _) (v := ?v2) rfl (by kernel_rfl) (by kernel_rfl) (by kernel_rfl) (fun _ _ _ h => h) (Or.inl ⟨by rfl, ?y2⟩) hHeld ?r2
  case y2 => (intro wq hSw; (try dsimp only at hSw); go_simp; try with_reducible rfl)
  try simp only [Act.put, List.getElem_toArray, List.getElem_cons_zero, List.getElem_cons_succ, List.setIfInBounds_toArray, List.set_cons_zero, List.set_cons_succ]
  refine wpAnyH_take (i := 3) (oi := _) (v := ?v3) rfl (by kernel_rfl) (by kernel_rfl) (by kernel_rfl) (fun _ _ _ h => h) (Or.inl ⟨by rfl, ?y3⟩) hHeld ?r3
  case y3 => (intro wq hSw; (try dsimp only at hSw); go_simp; try with_reducible rfl)
  try simp only [Act.put, List.getElem_toArray, List.getElem_cons_zero, List.getElem_cons_succ, List.setIfInBounds_toArray, List.set_cons_zero, List.set_cons_succ]
  refine wpAnyH_take (i := 5) (oi := _) (v := ?v5) rfl (by kernel_rfl) (by kernel_rfl) (by kernel_rfl) (fun _ _ _ h => h) (Or.inl ⟨by rfl, ?y5⟩) hHeld ?r5
  case y5 => (intro wq hSw; (try dsimp only at hSw); go_simp; try with_reducible rfl)
  try simp only [Act.put, List.getElem_toArray, List.getElem_cons_zero, List.getElem_cons_succ, List.setIfInBounds_toArray, List.set_cons_zero, List.set_cons_succ]
  refine wpAnyH_take (i := 8) (oi := _) (v := ?v8) rfl (by kernel_rfl) (by kernel_rfl) (by kernel_rfl) (fun _ _ _ h => h) (Or.inl ⟨by rfl, ?y8⟩) hHeld ?r8
  case y8 => (intro wq hSw; (try dsimp only at hSw); go_simp; try with_reducible rfl)
  try simp only [Act.put, List.getElem_toArray, List.getElem_cons_zero, List.getElem_cons_succ, List.setIfInBounds_toArray, List.set_cons_zero, List.set_cons_succ]
  refine wpAnyH_take (i := 9) (oi := _) (v := ?v9) rfl (by kernel_rfl) (by kernel_rfl) (by kernel_rfl) (fun _ _ _ h => h) (Or.inl ⟨by rfl, ?y9⟩) hHeld ?r9
  case y9 => (intro wq hSw; (try dsimp only at hSw); go_simp; try with_reducible rfl)
  try simp only [Act.put, List.getElem_toArray, List.getElem_cons_zero, List.getElem_cons_succ, List.setIfInBounds_toArray, List.set_cons_zero, List.set_cons_succ]
  refine wpAnyH_ready (rs := [4]) (by kernel_rfl) (by simp) ?_
  refine AllReadyH.cons (o := _) rfl (fun K hK => ?_) AllReadyH.nil
  go_simp
  refine (SI.out _).mono ?_; rintro e w9 ⟨rfl, hnd⟩; have hbl : Below W.heap.size W w9 := aluB hnd
  refine hK.out _ _ ⟨(hbl.cell (by exact hHeld.2.2)).trans hHeld.1, (hbl.cell (by exact hHeld.2.2)).trans hHeld.2.1, Nat.lt_of_lt_of_le hHeld.2.2 hbl.size⟩ (fun hHeld2 => ?_)
  clear hK K hHeld
  have hHeld := hHeld2
  clear hHeld2
  try simp only [Act.put, List.getElem_toArray, List.getElem_cons_zero, List.getElem_cons_succ, List.setIfInBounds_toArray, List.set_cons_zero, List.set_cons_succ]
  refine wpAnyH_take (i := 6) (oi := _) (v := ?v6) rfl (by kernel_rfl) (by kernel_rfl) (by kernel_rfl) (fun _ _ _ h => h) (Or.inl ⟨by rfl, ?y6⟩) hHeld ?r6
  case y6 => (intro wq hSw; (try dsimp only at hSw); go_simp; try with_reducible rfl)
  try simp only [Act.put, List.getElem_toArray, List.getElem_cons_zero, List.getElem_cons_succ, List.setIfInBounds_toArray, List.set_cons_zero, List.set_cons_succ]
  refine wpAnyH_take (i := 7) (oi := _) (v := ?v7) rfl (by kernel_rfl) (by kernel_rfl) (by kernel_rfl) (fun _ _ _ h => h) (Or.inl ⟨by rfl, ?y7⟩) hHeld ?r7
  case y7 => (intro wq hSw; (try dsimp only at hSw); go_simp; try with_reducible rfl)
  try simp only [Act.put, List.getElem_toArray, List.getElem_cons_zero, List.getElem_cons_succ, List.setIfInBounds_toArray, List.set_cons_zero, List.set_cons_succ]
  refine wpAnyH_take (i := 10) (oi := _) (v := ?v10) rfl (by kernel_rfl) (by kernel_rfl) (by kernel_rfl) (fun _ _ _ h => h) (Or.inl ⟨by rfl, ?y10⟩) hHeld ?r10
  case y10 => (intro wq hSw; (try dsimp only at hSw); go_simp; try with_reducible rfl)
  try simp only [Act.put, List.getElem_toArray, List.getElem_cons_zero, List.getElem_cons_succ, List.setIfInBounds_toArray, List.set_cons_zero, List.set_cons_succ]
  have M9 := (HM.out.grown bW).grown hbl
  have cD := M9.v D hD
  have zD := M9.fz D (by omega)
  have M2 := Lib.hid (machV_set (x := sg (f A) / 2 ^ imm.toNat % 4294967296) M9 hD)
  have G2 := Lib.hid (grownS_set (k := D) (x := .int .u32 (sg (f A) / 2 ^ imm.toNat % 4294967296)) (show w.grownBy w9 (some B) from ⟨(bW.trans (hbl.mono bW.size)).os, (bW.trans (hbl.mono bW.size)).tape, (bW.trans (hbl.mono bW.size)).output, (bW.trans (hbl.mono bW.size)).size, fun i hi _ => (bW.trans (hbl.mono bW.size)).block i hi⟩))
  refine wpAnyH_ready (rs := [11]) (by kernel_rfl) (by simp) ?_
  refine AllReadyH.cons (o := _) rfl (fun K hK => ?_) AllReadyH.nil
  go_simp
  refine hK.out _ _ ⟨by rw [World.cell?_setCell_other (h := fun e => by injection e with e1 _ _; omega)]; exact hHeld.1, by rw [World.cell?_setCell_other (h := fun e => by injection e with e1 _ _; omega)]; exact hHeld.2.1, by rw [World.size_setCell]; exact hHeld.2.2⟩ (fun hHeld2 => ?_)
  clear hK K
  try simp only [Act.put, List.getElem_toArray, List.getElem_cons_zero, List.getElem_cons_succ, List.setIfInBounds_toArray, List.set_cons_zero, List.set_cons_succ]
  refine wpAnyH_done (by kernel_rfl) ?_ _
  go_wp2_with fail
  go_ret
  exact ⟨rfl, M2.out, G2.out⟩
end Go.Proofs.Ytghclbeoabkgcaa
