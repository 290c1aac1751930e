/- Contract of one step of the program's machine for loop programs: more operations. -/
import Derived.Test.YtlieapapmkbbgaaLrDa
import Derived.Test.YtlieapapmkbbgaaLrE
import Derived.Test.YtlieapapmkbbgaaLrDb
import Derived.Test.YtlieapapmkbbgaaLrDc
import Derived.Test.YtlieapapmkbbgaaGA
import Derived.Test.YtlieapapmkbbgaaGG
import Derived.Deep.MidRow
namespace Go.Proofs.Ytlieapapmkbbgaa
open Go Go.RowKit Pl
set_option linter.unusedVariables false

set_option maxRecDepth 100000 in
set_option maxHeartbeats 4000000 in
theorem do_14 (B D A E : Nat) (mp : Option Addr) (imm : Int) (f : Nat → Int) (w : World) (hD : D < 64) (hA : A < 64) (hE : E < 64) (hm : MachV B mp f w) (hf : WordsF f) (hi : 0 ≤ imm ∧ imm ≤ 31) :
    Calls Try.prog 20 #[.pointer (some ⟨B, 0, none⟩), .agg #[.int .i64 14, .int .i64 D, .int .i64 A, .int .i64 E, .int .i32 imm]] w fun e w' => e = .returned (.int .i64 0) ∧ MachV B mp (upd f D (f A * 2 ^ imm.toNat % 4294967296)) w' ∧ w.grownBy w' (some B) := by
  have cA := hm.v A hA
  have cE := hm.v E hE
  have cD := hm.v D hD
  have zD := hm.fz D (by omega)
  have lt := hm.lt
  have gA : (A : Int) < 64 := by omega
  have gE : (E : Int) < 64 := by omega
  have gD : (D : Int) < 64 := by omega
  have pA : (0 : Int) ≤ (A : Int) := by omega
  have pE : (0 : Int) ≤ (E : Int) := by omega
  have pD : (0 : Int) ≤ (D : Int) := by omega
  have M2 := Lib.hid (((machV_set (x := f A * 2 ^ imm.toNat % 4294967296) hm hD).grown (w' := (w.setCell ⟨B, D, none⟩ (.int .u32 (f A * 2 ^ imm.toNat % 4294967296))).alloc (.cells #[.int .i64 14, .int .i64 D, .int .i64 A, .int .i64 E, .int .i32 imm] 46)) ((Below.refl _ _).alloc (Nat.le_refl _) _)).drew).drew
  have G2 := Lib.hid (grownS_drew (grownS_drew (grownS_alloc (grownS_set (k := D) (x := .int .u32 (f A * 2 ^ imm.toNat % 4294967296)) (World.grownBy.refl w (some B))) (.cells #[.int .i64 14, .int .i64 D, .int .i64 A, .int .i64 E, .int .i32 imm] 46))))
  clear hm hf
  go_enter Try.func20, Try.ntmps20
  go_wp2_with fail
  go_region
  go_wp2_with fail
  go_region
  generalize World.drew (World.drew _) = W2 at *
  clear cA cE cD zD
  go_wp2_with fail
  go_ret
  exact ⟨rfl, M2.out, G2.out⟩

set_option maxRecDepth 100000 in
set_option maxHeartbeats 4000000 in
theorem do_15 (B D A E : Nat) (mp : Option Addr) (imm : Int) (f : Nat → Int) (w : World) (hD : D < 64) (hA : A < 64) (hE : E < 64) (hm : MachV B mp f w) (hf : WordsF f) (hi : 0 ≤ imm ∧ imm ≤ 31) :
    Calls Try.prog 20 #[.pointer (some ⟨B, 0, none⟩), .agg #[.int .i64 15, .int .i64 D, .int .i64 A, .int .i64 E, .int .i32 imm]] w fun e w' => e = .returned (.int .i64 0) ∧ MachV B mp (upd f D (f A / 2 ^ imm.toNat)) w' ∧ w.grownBy w' (some B) := by
  have cA := hm.v A hA
  have cE := hm.v E hE
  have cD := hm.v D hD
  have zD := hm.fz D (by omega)
  have lt := hm.lt
  have gA : (A : Int) < 64 := by omega
  have gE : (E : Int) < 64 := by omega
  have gD : (D : Int) < 64 := by omega
  have pA : (0 : Int) ≤ (A : Int) := by omega
  have pE : (0 : Int) ≤ (E : Int) := by omega
  have pD : (0 : Int) ≤ (D : Int) := by omega
  have M2 := Lib.hid (((machV_set (x := f A / 2 ^ imm.toNat) hm hD).grown (w' := (w.setCell ⟨B, D, none⟩ (.int .u32 (f A / 2 ^ imm.toNat))).alloc (.cells #[.int .i64 15, .int .i64 D, .int .i64 A, .int .i64 E, .int .i32 imm] 46)) ((Below.refl _ _).alloc (Nat.le_refl _) _)).drew).drew
  have G2 := Lib.hid (grownS_drew (grownS_drew (grownS_alloc (grownS_set (k := D) (x := .int .u32 (f A / 2 ^ imm.toNat)) (World.grownBy.refl w (some B))) (.cells #[.int .i64 15, .int .i64 D, .int .i64 A, .int .i64 E, .int .i32 imm] 46))))
  clear hm hf
  go_enter Try.func20, Try.ntmps20
  go_wp2_with fail
  go_region
  go_wp2_with fail
  go_region
  generalize World.drew (World.drew _) = W2 at *
  clear cA cE cD zD
  go_wp2_with fail
  go_ret
  exact ⟨rfl, M2.out, G2.out⟩

set_option maxRecDepth 100000 in
set_option maxHeartbeats 4000000 in
theorem do_16 (B D A E : Nat) (mp : Option Addr) (imm : Int) (f : Nat → Int) (w : World) (hD : D < 64) (hA : A < 64) (hE : E < 64) (hm : MachV B mp f w) (hf : WordsF f) (hi : 0 ≤ imm ∧ imm ≤ 31) :
    Calls Try.prog 20 #[.pointer (some ⟨B, 0, none⟩), .agg #[.int .i64 16, .int .i64 D, .int .i64 A, .int .i64 E, .int .i32 imm]] w fun e w' => e = .returned (.int .i64 0) ∧ MachV B mp (upd f D (sg (f A) / 2 ^ imm.toNat % 4294967296)) w' ∧ w.grownBy w' (some B) := by
  have cA := hm.v A hA
  have cE := hm.v E hE
  have cD := hm.v D hD
  have zD := hm.fz D (by omega)
  have lt := hm.lt
  have gA : (A : Int) < 64 := by omega
  have gE : (E : Int) < 64 := by omega
  have gD : (D : Int) < 64 := by omega
  have pA : (0 : Int) ≤ (A : Int) := by omega
  have pE : (0 : Int) ≤ (E : Int) := by omega
  have pD : (0 : Int) ≤ (D : Int) := by omega
  have fA := hf A
  have SI := Lib.hid (fun w => num_signed (f A) w (by omega) (by omega))
  have n0 : ¬ imm < 0 := by omega
  have HM := Lib.hid hm
  have bW : Below w.heap.size w (w.alloc (.cells #[.int .i64 16, .int .i64 D, .int .i64 A, .int .i64 E, .int .i32 imm] 46)).drew := ((Below.refl _ _).alloc (Nat.le_refl _) _).drew
  clear hm hf fA
  go_enter Try.func20, Try.ntmps20
  go_wp2_with fail
  go_region
  go_wp2_with fail
  have hS0 : (w.alloc (.cells #[.int .i64 16, .int .i64 D, .int .i64 A, .int .i64 E, .int .i32 imm] 46)).drew.cell? ⟨w.heap.size, 0, none⟩ = some (.int .i64 16) ∧ (w.alloc (.cells #[.int .i64 16, .int .i64 D, .int .i64 A, .int .i64 E, .int .i32 imm] 46)).drew.cell? ⟨w.heap.size, 1, none⟩ = some (.int .i64 D) ∧ w.heap.size < (w.alloc (.cells #[.int .i64 16, .int .i64 D, .int .i64 A, .int .i64 E, .int .i32 imm] 46)).drew.heap.size := ⟨by simp, by simp, by simp⟩
  generalize World.drew (World.alloc _ _) = W at *
  have hS : W.drew.cell? ⟨w.heap.size, 0, none⟩ = some (.int .i64 16) ∧ W.drew.cell? ⟨w.heap.size, 1, none⟩ = some (.int .i64 D) ∧ w.heap.size < W.drew.heap.size := hS0
  clear cA cE cD zD hS0
  refine wp_region_held_drew (S := (fun w' => w'.cell? ⟨w.heap.size, 0, none⟩ = some (.int .i64 16) ∧ w'.cell? ⟨w.heap.size, 1, none⟩ = some (.int .i64 D) ∧ w.heap.size < w'.heap.size)) (by kernel_rfl) (by exact hS) (fun hHeld => ?_)
  refine wpAnyH_take (i := 0) (oi := _) (v := ?v0) rfl (by kernel_rfl) (by kernel_rfl) (by kernel_rfl) (fun _ _ _ h => h) (Or.inl ⟨by rfl, ?y0⟩) hHeld ?r0
  case y0 => (intro wq hSw; (try dsimp only at hSw); go_simp; try with_reducible rfl)
  try simp only [Act.put, List.getElem_toArray, List.getElem_cons_zero, List.setIfInBounds_toArray, List.set_cons_zero, List.set_cons_succ]
  refine wpAnyH_take (i := 1) (oi := _) (v := ?v1) rfl (by kernel_rfl) (by kernel_rfl) (by kernel_rfl) (fun _ _ _ h => h) (Or.inl ⟨by rfl, ?y1⟩) hHeld ?r1
  case y1 => (intro wq hSw; (try dsimp only at hSw); go_simp; try with_reducible rfl)
  try simp only [Act.put, List.getElem_toArray, List.getElem_cons_zero, List.getElem_cons_succ, List.setIfInBounds_toArray, List.set_cons_zero, List.set_cons_succ]
  refine wpAnyH_take (i := 2) (oi := _) (v := ?v2) rfl (by kernel_rfl) (by kernel_rfl) (by kernel_rfl) (fun _ _ _ h => h) (Or.inl ⟨by rfl, ?y2⟩) hHeld ?r2
  case y2 => (intro wq hSw; (try dsimp only at hSw); go_simp; try with_reducible rfl)
  try simp only [Act.put, List.getElem_toArray, List.getElem_cons_zero, List.getElem_cons_succ, List.setIfInBounds_toArray, List.set_cons_zero, List.set_cons_succ]
  refine wpAnyH_take (i := 3) (oi := _) (v := ?v3) rfl (by kernel_rfl) (by kernel_rfl) (by kernel_rfl) (fun _ _ _ h => h) (Or.inl ⟨by rfl, ?y3⟩) hHeld ?r3
  case y3 => (intro wq hSw; (try dsimp only at hSw); go_simp; try with_reducible rfl)
  try simp only [Act.put, List.getElem_toArray, List.getElem_cons_zero, List.getElem_cons_succ, List.setIfInBounds_toArray, List.set_cons_zero, List.set_cons_succ]
  refine wpAnyH_take (i := 5) (oi := _) (v := ?v5) rfl (by kernel_rfl) (by kernel_rfl) (by kernel_rfl) (fun _ _ _ h => h) (Or.inl ⟨by rfl, ?y5⟩) hHeld ?r5
  case y5 => (intro wq hSw; (try dsimp only at hSw); go_simp; try with_reducible rfl)
  try simp only [Act.put, List.getElem_toArray, List.getElem_cons_zero, List.getElem_cons_succ, List.setIfInBounds_toArray, List.set_cons_zero, List.set_cons_succ]
  refine wpAnyH_take (i := 8) (oi := _) (v := ?v8) rfl (by kernel_rfl) (by kernel_rfl) (by kernel_rfl) (fun _ _ _ h => h) (Or.inl ⟨by rfl, ?y8⟩) hHeld ?r8
  case y8 => (intro wq hSw; (try dsimp only at hSw); go_simp; try with_reducible rfl)
  try simp only [Act.put, List.getElem_toArray, List.getElem_cons_zero, List.getElem_cons_succ, List.setIfInBounds_toArray, List.set_cons_zero, List.set_cons_succ]
  refine wpAnyH_take (i := 9) (oi := _) (v := ?v9) rfl (by kernel_rfl) (by kernel_rfl) (by kernel_rfl) (fun _ _ _ h => h) (Or.inl ⟨by rfl, ?y9⟩) hHeld ?r9
  case y9 => (intro wq hSw; (try dsimp only at hSw); go_simp; try with_reducible rfl)
  try simp only [Act.put, List.getElem_toArray, List.getElem_cons_zero, List.getElem_cons_succ, List.setIfInBounds_toArray, List.set_cons_zero, List.set_cons_succ]
  refine wpAnyH_ready (rs := [4]) (by kernel_rfl) (by simp) ?_
  refine AllReadyH.cons (o := _) rfl (fun K hK => ?_) AllReadyH.nil
  go_simp
  refine (SI.out _).mono ?_; rintro e w9 ⟨rfl, hnd⟩; have hbl : Below W.heap.size W w9 := aluB hnd
  refine hK.out _ _ ⟨(hbl.cell (by exact hHeld.2.2)).trans hHeld.1, (hbl.cell (by exact hHeld.2.2)).trans hHeld.2.1, Nat.lt_of_lt_of_le hHeld.2.2 hbl.size⟩ (fun hHeld2 => ?_)
  clear hK K hHeld
  have hHeld := hHeld2
  clear hHeld2
  try simp only [Act.put, List.getElem_toArray, List.getElem_cons_zero, List.getElem_cons_succ, List.setIfInBounds_toArray, List.set_cons_zero, List.set_cons_succ]
  refine wpAnyH_take (i := 6) (oi := _) (v := ?v6) rfl (by kernel_rfl) (by kernel_rfl) (by kernel_rfl) (fun _ _ _ h => h) (Or.inl ⟨by rfl, ?y6⟩) hHeld ?r6
  case y6 => (intro wq hSw; (try dsimp only at hSw); go_simp; try with_reducible rfl)
  try simp only [Act.put, List.getElem_toArray, List.getElem_cons_zero, List.getElem_cons_succ, List.setIfInBounds_toArray, List.set_cons_zero, List.set_cons_succ]
  refine wpAnyH_take (i := 7) (oi := _) (v := ?v7) rfl (by kernel_rfl) (by kernel_rfl) (by kernel_rfl) (fun _ _ _ h => h) (Or.inl ⟨by rfl, ?y7⟩) hHeld ?r7
  case y7 => (intro wq hSw; (try dsimp only at hSw); go_simp; try with_reducible rfl)
  try simp only [Act.put, List.getElem_toArray, List.getElem_cons_zero, List.getElem_cons_succ, List.setIfInBounds_toArray, List.set_cons_zero, List.set_cons_succ]
  refine wpAnyH_take (i := 10) (oi := _) (v := ?v10) rfl (by kernel_rfl) (by kernel_rfl) (by kernel_rfl) (fun _ _ _ h => h) (Or.inl ⟨by rfl, ?y10⟩) hHeld ?r10
  case y10 => (intro wq hSw; (try dsimp only at hSw); go_simp; try with_reducible rfl)
  try simp only [Act.put, List.getElem_toArray, List.getElem_cons_zero, List.getElem_cons_succ, List.setIfInBounds_toArray, List.set_cons_zero, List.set_cons_succ]
  have M9 := (HM.out.grown bW).grown hbl
  have cD := M9.v D hD
  have zD := M9.fz D (by omega)
  have M2 := Lib.hid (machV_set (x := sg (f A) / 2 ^ imm.toNat % 4294967296) M9 hD)
  have G2 := Lib.hid (grownS_set (k := D) (x := .int .u32 (sg (f A) / 2 ^ imm.toNat % 4294967296)) (show w.grownBy w9 (some B) from ⟨(bW.trans (hbl.mono bW.size)).os, (bW.trans (hbl.mono bW.size)).tape, (bW.trans (hbl.mono bW.size)).output, (bW.trans (hbl.mono bW.size)).size, fun i hi _ => (bW.trans (hbl.mono bW.size)).block i hi⟩))
  refine wpAnyH_ready (rs := [11]) (by kernel_rfl) (by simp) ?_
  refine AllReadyH.cons (o := _) rfl (fun K hK => ?_) AllReadyH.nil
  go_simp
  refine hK.out _ _ ⟨by rw [World.cell?_setCell_other (h := fun e => by injection e with e1 _ _; omega)]; exact hHeld.1, by rw [World.cell?_setCell_other (h := fun e => by injection e with e1 _ _; omega)]; exact hHeld.2.1, by rw [World.size_setCell]; exact hHeld.2.2⟩ (fun hHeld2 => ?_)
  clear hK K
  try simp only [Act.put, List.getElem_toArray, List.getElem_cons_zero, List.getElem_cons_succ, List.setIfInBounds_toArray, List.set_cons_zero, List.set_cons_succ]
  refine wpAnyH_done (by kernel_rfl) ?_ _
  go_wp2_with fail
  go_ret
  exact ⟨rfl, M2.out, G2.out⟩
end Go.Proofs.Ytlieapapmkbbgaa

namespace Go.Proofs.Ytlieapapmkbbgaa
open Go Go.RowKit Pl
set_option linter.unusedVariables false

theorem ld_of {B M F R : Nat} {K : Bk} {f' : Nat → Int} {b : List Nat} {W : World} {e : Ending} {w' : World} (hmem : MemIs M F R K.ff K.rr K.Fb b W) (hB : B ≠ M ∧ B ≠ F ∧ B ≠ R) (h : e = .returned (.int .i64 0) ∧ MachV B (some ⟨M, 0, none⟩) f' w' ∧ W.grownBy w' (some B)) : LdPost B M F R K ⟨0, f', b⟩ W e w' := by
  obtain ⟨h1, h2, h3⟩ := h
  have ho : Out (· = B) W w' := Out.of_grown h3 (fun j h => by cases h; rfl)
  exact ⟨h1, h2, hmem.out ho (fun e => hB.1 e.symm) (fun e => hB.2.1 e.symm) (fun e => hB.2.2 e.symm), ho.mono (fun j h => .inl h)⟩
theorem shR {i : Int} (h : 0 ≤ i ∧ i ≤ 31) : (i % 4294967296 % 32).toNat = i.toNat := by
  rw [show i % 4294967296 % 32 = i by omega]
theorem doR_plain {K : Bk} {x : Q5} {f : Nat → Int} {b : List Nat} {v : Int} (h : x.o ≤ 16 ∨ x.o = 23) (hv : valR x f = v) : doR K x f b = ⟨0, upd f x.d.toNat v, b⟩ := by
  unfold doR
  rw [if_pos h, hv]
theorem extR_19 (n : Nat) : extR 19 n = sextS (n : Int) 16 := by
  have h : (8 * ((sizeR 19 : Nat) : Int)) = 16 := by decide
  unfold extR
  rw [if_neg (by decide), h]
theorem extR_20 (n : Nat) : extR 20 n = sextS (n : Int) 32 := by
  have h : (8 * ((sizeR 20 : Nat) : Int)) = 32 := by decide
  unfold extR
  rw [if_neg (by decide), h]
theorem case_up {o k : Int} {P : Prop} (h : k ≤ o) (h1 : o = k → P) (h2 : k + 1 ≤ o → P) : P := by
  by_cases e : o = k
  · exact h1 e
  · exact h2 (by omega)
theorem doa_1 (B M F R D A E : Nat) (i : Int) (K : Bk) (f : Nat → Int) (b : List Nat) (W : World) (hd : D < 64) (ha : A < 64) (hbb : E < 64) (hsh : 14 ≤ (1 : Int) → (1 : Int) ≤ 16 → 0 ≤ i ∧ i ≤ 31) (hm : MachV B (some ⟨M, 0, none⟩) f W) (hmem : MemIs M F R K.ff K.rr K.Fb b W) (hb : Banks K.ff K.Fb.length K.rr b.length) (hB : B ≠ M ∧ B ≠ F ∧ B ≠ R) (hf : WordsF f) (ld : ∀ op : Int, (ldR K ⟨op, D, A, E, i⟩ f b).1 < 4294967296) :
    Calls Try.prog 20 #[.pointer (some ⟨B, 0, none⟩), .agg #[.int .i64 1, .int .i64 D, .int .i64 A, .int .i64 E, .int .i32 i]] W (LdPost B M F R K (doR K ⟨1, D, A, E, i⟩ f b) W) := by
  rw [doR_plain (.inl (show (1 : Int) ≤ 16 by decide)) rfl]; exact (do_1 B D A E _ i f W (by omega) (by omega) (by omega) hm hf).mono fun e w' h => ld_of hmem hB h
theorem doa_2 (B M F R D A E : Nat) (i : Int) (K : Bk) (f : Nat → Int) (b : List Nat) (W : World) (hd : D < 64) (ha : A < 64) (hbb : E < 64) (hsh : 14 ≤ (2 : Int) → (2 : Int) ≤ 16 → 0 ≤ i ∧ i ≤ 31) (hm : MachV B (some ⟨M, 0, none⟩) f W) (hmem : MemIs M F R K.ff K.rr K.Fb b W) (hb : Banks K.ff K.Fb.length K.rr b.length) (hB : B ≠ M ∧ B ≠ F ∧ B ≠ R) (hf : WordsF f) (ld : ∀ op : Int, (ldR K ⟨op, D, A, E, i⟩ f b).1 < 4294967296) :
    Calls Try.prog 20 #[.pointer (some ⟨B, 0, none⟩), .agg #[.int .i64 2, .int .i64 D, .int .i64 A, .int .i64 E, .int .i32 i]] W (LdPost B M F R K (doR K ⟨2, D, A, E, i⟩ f b) W) := by
  rw [doR_plain (.inl (show (2 : Int) ≤ 16 by decide)) rfl]; exact (do_2 B D A E _ i f W (by omega) (by omega) (by omega) hm hf).mono fun e w' h => ld_of hmem hB h
theorem doa_3 (B M F R D A E : Nat) (i : Int) (K : Bk) (f : Nat → Int) (b : List Nat) (W : World) (hd : D < 64) (ha : A < 64) (hbb : E < 64) (hsh : 14 ≤ (3 : Int) → (3 : Int) ≤ 16 → 0 ≤ i ∧ i ≤ 31) (hm : MachV B (some ⟨M, 0, none⟩) f W) (hmem : MemIs M F R K.ff K.rr K.Fb b W) (hb : Banks K.ff K.Fb.length K.rr b.length) (hB : B ≠ M ∧ B ≠ F ∧ B ≠ R) (hf : WordsF f) (ld : ∀ op : Int, (ldR K ⟨op, D, A, E, i⟩ f b).1 < 4294967296) :
    Calls Try.prog 20 #[.pointer (some ⟨B, 0, none⟩), .agg #[.int .i64 3, .int .i64 D, .int .i64 A, .int .i64 E, .int .i32 i]] W (LdPost B M F R K (doR K ⟨3, D, A, E, i⟩ f b) W) := by
  rw [doR_plain (.inl (show (3 : Int) ≤ 16 by decide)) rfl]; exact (do_3 B D A E _ i f W (by omega) (by omega) (by omega) hm hf).mono fun e w' h => ld_of hmem hB h
theorem doa_4 (B M F R D A E : Nat) (i : Int) (K : Bk) (f : Nat → Int) (b : List Nat) (W : World) (hd : D < 64) (ha : A < 64) (hbb : E < 64) (hsh : 14 ≤ (4 : Int) → (4 : Int) ≤ 16 → 0 ≤ i ∧ i ≤ 31) (hm : MachV B (some ⟨M, 0, none⟩) f W) (hmem : MemIs M F R K.ff K.rr K.Fb b W) (hb : Banks K.ff K.Fb.length K.rr b.length) (hB : B ≠ M ∧ B ≠ F ∧ B ≠ R) (hf : WordsF f) (ld : ∀ op : Int, (ldR K ⟨op, D, A, E, i⟩ f b).1 < 4294967296) :
    Calls Try.prog 20 #[.pointer (some ⟨B, 0, none⟩), .agg #[.int .i64 4, .int .i64 D, .int .i64 A, .int .i64 E, .int .i32 i]] W (LdPost B M F R K (doR K ⟨4, D, A, E, i⟩ f b) W) := by
  rw [doR_plain (.inl (show (4 : Int) ≤ 16 by decide)) rfl]; exact (do_4 B D A E _ i f W (by omega) (by omega) (by omega) hm hf).mono fun e w' h => ld_of hmem hB h
theorem doa_5 (B M F R D A E : Nat) (i : Int) (K : Bk) (f : Nat → Int) (b : List Nat) (W : World) (hd : D < 64) (ha : A < 64) (hbb : E < 64) (hsh : 14 ≤ (5 : Int) → (5 : Int) ≤ 16 → 0 ≤ i ∧ i ≤ 31) (hm : MachV B (some ⟨M, 0, none⟩) f W) (hmem : MemIs M F R K.ff K.rr K.Fb b W) (hb : Banks K.ff K.Fb.length K.rr b.length) (hB : B ≠ M ∧ B ≠ F ∧ B ≠ R) (hf : WordsF f) (ld : ∀ op : Int, (ldR K ⟨op, D, A, E, i⟩ f b).1 < 4294967296) :
    Calls Try.prog 20 #[.pointer (some ⟨B, 0, none⟩), .agg #[.int .i64 5, .int .i64 D, .int .i64 A, .int .i64 E, .int .i32 i]] W (LdPost B M F R K (doR K ⟨5, D, A, E, i⟩ f b) W) := by
  rw [doR_plain (.inl (show (5 : Int) ≤ 16 by decide)) rfl]; exact (do_5 B D A E _ i f W (by omega) (by omega) (by omega) hm hf).mono fun e w' h => ld_of hmem hB h
theorem doa_6 (B M F R D A E : Nat) (i : Int) (K : Bk) (f : Nat → Int) (b : List Nat) (W : World) (hd : D < 64) (ha : A < 64) (hbb : E < 64) (hsh : 14 ≤ (6 : Int) → (6 : Int) ≤ 16 → 0 ≤ i ∧ i ≤ 31) (hm : MachV B (some ⟨M, 0, none⟩) f W) (hmem : MemIs M F R K.ff K.rr K.Fb b W) (hb : Banks K.ff K.Fb.length K.rr b.length) (hB : B ≠ M ∧ B ≠ F ∧ B ≠ R) (hf : WordsF f) (ld : ∀ op : Int, (ldR K ⟨op, D, A, E, i⟩ f b).1 < 4294967296) :
    Calls Try.prog 20 #[.pointer (some ⟨B, 0, none⟩), .agg #[.int .i64 6, .int .i64 D, .int .i64 A, .int .i64 E, .int .i32 i]] W (LdPost B M F R K (doR K ⟨6, D, A, E, i⟩ f b) W) := by
  rw [doR_plain (.inl (show (6 : Int) ≤ 16 by decide)) rfl]; exact (do_6 B D A E _ i f W (by omega) (by omega) (by omega) hm hf).mono fun e w' h => ld_of hmem hB h
theorem doa_7 (B M F R D A E : Nat) (i : Int) (K : Bk) (f : Nat → Int) (b : List Nat) (W : World) (hd : D < 64) (ha : A < 64) (hbb : E < 64) (hsh : 14 ≤ (7 : Int) → (7 : Int) ≤ 16 → 0 ≤ i ∧ i ≤ 31) (hm : MachV B (some ⟨M, 0, none⟩) f W) (hmem : MemIs M F R K.ff K.rr K.Fb b W) (hb : Banks K.ff K.Fb.length K.rr b.length) (hB : B ≠ M ∧ B ≠ F ∧ B ≠ R) (hf : WordsF f) (ld : ∀ op : Int, (ldR K ⟨op, D, A, E, i⟩ f b).1 < 4294967296) :
    Calls Try.prog 20 #[.pointer (some ⟨B, 0, none⟩), .agg #[.int .i64 7, .int .i64 D, .int .i64 A, .int .i64 E, .int .i32 i]] W (LdPost B M F R K (doR K ⟨7, D, A, E, i⟩ f b) W) := by
  rw [doR_plain (.inl (show (7 : Int) ≤ 16 by decide)) rfl]; exact (do_7 B D A E _ i f W (by omega) (by omega) (by omega) hm hf).mono fun e w' h => ld_of hmem hB h
theorem doa_8 (B M F R D A E : Nat) (i : Int) (K : Bk) (f : Nat → Int) (b : List Nat) (W : World) (hd : D < 64) (ha : A < 64) (hbb : E < 64) (hsh : 14 ≤ (8 : Int) → (8 : Int) ≤ 16 → 0 ≤ i ∧ i ≤ 31) (hm : MachV B (some ⟨M, 0, none⟩) f W) (hmem : MemIs M F R K.ff K.rr K.Fb b W) (hb : Banks K.ff K.Fb.length K.rr b.length) (hB : B ≠ M ∧ B ≠ F ∧ B ≠ R) (hf : WordsF f) (ld : ∀ op : Int, (ldR K ⟨op, D, A, E, i⟩ f b).1 < 4294967296) :
    Calls Try.prog 20 #[.pointer (some ⟨B, 0, none⟩), .agg #[.int .i64 8, .int .i64 D, .int .i64 A, .int .i64 E, .int .i32 i]] W (LdPost B M F R K (doR K ⟨8, D, A, E, i⟩ f b) W) := by
  rw [doR_plain (.inl (show (8 : Int) ≤ 16 by decide)) rfl]; exact (do_8 B D A E _ i f W (by omega) (by omega) (by omega) hm hf).mono fun e w' h => ld_of hmem hB h
theorem doa_9 (B M F R D A E : Nat) (i : Int) (K : Bk) (f : Nat → Int) (b : List Nat) (W : World) (hd : D < 64) (ha : A < 64) (hbb : E < 64) (hsh : 14 ≤ (9 : Int) → (9 : Int) ≤ 16 → 0 ≤ i ∧ i ≤ 31) (hm : MachV B (some ⟨M, 0, none⟩) f W) (hmem : MemIs M F R K.ff K.rr K.Fb b W) (hb : Banks K.ff K.Fb.length K.rr b.length) (hB : B ≠ M ∧ B ≠ F ∧ B ≠ R) (hf : WordsF f) (ld : ∀ op : Int, (ldR K ⟨op, D, A, E, i⟩ f b).1 < 4294967296) :
    Calls Try.prog 20 #[.pointer (some ⟨B, 0, none⟩), .agg #[.int .i64 9, .int .i64 D, .int .i64 A, .int .i64 E, .int .i32 i]] W (LdPost B M F R K (doR K ⟨9, D, A, E, i⟩ f b) W) := by
  rw [doR_plain (.inl (show (9 : Int) ≤ 16 by decide)) rfl]; exact (do_9 B D A E _ i f W (by omega) (by omega) (by omega) hm hf).mono fun e w' h => ld_of hmem hB h
theorem doa_10 (B M F R D A E : Nat) (i : Int) (K : Bk) (f : Nat → Int) (b : List Nat) (W : World) (hd : D < 64) (ha : A < 64) (hbb : E < 64) (hsh : 14 ≤ (10 : Int) → (10 : Int) ≤ 16 → 0 ≤ i ∧ i ≤ 31) (hm : MachV B (some ⟨M, 0, none⟩) f W) (hmem : MemIs M F R K.ff K.rr K.Fb b W) (hb : Banks K.ff K.Fb.length K.rr b.length) (hB : B ≠ M ∧ B ≠ F ∧ B ≠ R) (hf : WordsF f) (ld : ∀ op : Int, (ldR K ⟨op, D, A, E, i⟩ f b).1 < 4294967296) :
    Calls Try.prog 20 #[.pointer (some ⟨B, 0, none⟩), .agg #[.int .i64 10, .int .i64 D, .int .i64 A, .int .i64 E, .int .i32 i]] W (LdPost B M F R K (doR K ⟨10, D, A, E, i⟩ f b) W) := by
  rw [doR_plain (.inl (show (10 : Int) ≤ 16 by decide)) rfl]; exact (do_10 B D A E _ i f W (by omega) (by omega) (by omega) hm hf).mono fun e w' h => ld_of hmem hB h
theorem doa_11 (B M F R D A E : Nat) (i : Int) (K : Bk) (f : Nat → Int) (b : List Nat) (W : World) (hd : D < 64) (ha : A < 64) (hbb : E < 64) (hsh : 14 ≤ (11 : Int) → (11 : Int) ≤ 16 → 0 ≤ i ∧ i ≤ 31) (hm : MachV B (some ⟨M, 0, none⟩) f W) (hmem : MemIs M F R K.ff K.rr K.Fb b W) (hb : Banks K.ff K.Fb.length K.rr b.length) (hB : B ≠ M ∧ B ≠ F ∧ B ≠ R) (hf : WordsF f) (ld : ∀ op : Int, (ldR K ⟨op, D, A, E, i⟩ f b).1 < 4294967296) :
    Calls Try.prog 20 #[.pointer (some ⟨B, 0, none⟩), .agg #[.int .i64 11, .int .i64 D, .int .i64 A, .int .i64 E, .int .i32 i]] W (LdPost B M F R K (doR K ⟨11, D, A, E, i⟩ f b) W) := by
  rw [doR_plain (.inl (show (11 : Int) ≤ 16 by decide)) rfl]; exact (do_11 B D A E _ i f W (by omega) (by omega) (by omega) hm hf).mono fun e w' h => ld_of hmem hB h
theorem doa_12 (B M F R D A E : Nat) (i : Int) (K : Bk) (f : Nat → Int) (b : List Nat) (W : World) (hd : D < 64) (ha : A < 64) (hbb : E < 64) (hsh : 14 ≤ (12 : Int) → (12 : Int) ≤ 16 → 0 ≤ i ∧ i ≤ 31) (hm : MachV B (some ⟨M, 0, none⟩) f W) (hmem : MemIs M F R K.ff K.rr K.Fb b W) (hb : Banks K.ff K.Fb.length K.rr b.length) (hB : B ≠ M ∧ B ≠ F ∧ B ≠ R) (hf : WordsF f) (ld : ∀ op : Int, (ldR K ⟨op, D, A, E, i⟩ f b).1 < 4294967296) :
    Calls Try.prog 20 #[.pointer (some ⟨B, 0, none⟩), .agg #[.int .i64 12, .int .i64 D, .int .i64 A, .int .i64 E, .int .i32 i]] W (LdPost B M F R K (doR K ⟨12, D, A, E, i⟩ f b) W) := by
  rw [doR_plain (.inl (show (12 : Int) ≤ 16 by decide)) rfl]; exact (do_12 B D A E _ i f W (by omega) (by omega) (by omega) hm hf).mono fun e w' h => ld_of hmem hB h
theorem doa_13 (B M F R D A E : Nat) (i : Int) (K : Bk) (f : Nat → Int) (b : List Nat) (W : World) (hd : D < 64) (ha : A < 64) (hbb : E < 64) (hsh : 14 ≤ (13 : Int) → (13 : Int) ≤ 16 → 0 ≤ i ∧ i ≤ 31) (hm : MachV B (some ⟨M, 0, none⟩) f W) (hmem : MemIs M F R K.ff K.rr K.Fb b W) (hb : Banks K.ff K.Fb.length K.rr b.length) (hB : B ≠ M ∧ B ≠ F ∧ B ≠ R) (hf : WordsF f) (ld : ∀ op : Int, (ldR K ⟨op, D, A, E, i⟩ f b).1 < 4294967296) :
    Calls Try.prog 20 #[.pointer (some ⟨B, 0, none⟩), .agg #[.int .i64 13, .int .i64 D, .int .i64 A, .int .i64 E, .int .i32 i]] W (LdPost B M F R K (doR K ⟨13, D, A, E, i⟩ f b) W) := by
  rw [doR_plain (.inl (show (13 : Int) ≤ 16 by decide)) (v := (f A + i) % 4294967296) (by show (f A + i % 4294967296) % 4294967296 = _; omega)]; exact (do_13 B D A E _ i f W (by omega) (by omega) (by omega) hm hf).mono fun e w' h => ld_of hmem hB h
theorem doa_14 (B M F R D A E : Nat) (i : Int) (K : Bk) (f : Nat → Int) (b : List Nat) (W : World) (hd : D < 64) (ha : A < 64) (hbb : E < 64) (hsh : 14 ≤ (14 : Int) → (14 : Int) ≤ 16 → 0 ≤ i ∧ i ≤ 31) (hm : MachV B (some ⟨M, 0, none⟩) f W) (hmem : MemIs M F R K.ff K.rr K.Fb b W) (hb : Banks K.ff K.Fb.length K.rr b.length) (hB : B ≠ M ∧ B ≠ F ∧ B ≠ R) (hf : WordsF f) (ld : ∀ op : Int, (ldR K ⟨op, D, A, E, i⟩ f b).1 < 4294967296) :
    Calls Try.prog 20 #[.pointer (some ⟨B, 0, none⟩), .agg #[.int .i64 14, .int .i64 D, .int .i64 A, .int .i64 E, .int .i32 i]] W (LdPost B M F R K (doR K ⟨14, D, A, E, i⟩ f b) W) := by
  have hi' := hsh (by omega) (by omega)
  rw [doR_plain (.inl (show (14 : Int) ≤ 16 by decide)) (v := f A * 2 ^ i.toNat % 4294967296) (by show f A * 2 ^ (i % 4294967296 % 32).toNat % 4294967296 = _; rw [shR hi'])]; exact (do_14 B D A E _ i f W (by omega) (by omega) (by omega) hm hf hi').mono fun e w' h => ld_of hmem hB h
theorem doa_15 (B M F R D A E : Nat) (i : Int) (K : Bk) (f : Nat → Int) (b : List Nat) (W : World) (hd : D < 64) (ha : A < 64) (hbb : E < 64) (hsh : 14 ≤ (15 : Int) → (15 : Int) ≤ 16 → 0 ≤ i ∧ i ≤ 31) (hm : MachV B (some ⟨M, 0, none⟩) f W) (hmem : MemIs M F R K.ff K.rr K.Fb b W) (hb : Banks K.ff K.Fb.length K.rr b.length) (hB : B ≠ M ∧ B ≠ F ∧ B ≠ R) (hf : WordsF f) (ld : ∀ op : Int, (ldR K ⟨op, D, A, E, i⟩ f b).1 < 4294967296) :
    Calls Try.prog 20 #[.pointer (some ⟨B, 0, none⟩), .agg #[.int .i64 15, .int .i64 D, .int .i64 A, .int .i64 E, .int .i32 i]] W (LdPost B M F R K (doR K ⟨15, D, A, E, i⟩ f b) W) := by
  have hi' := hsh (by omega) (by omega)
  rw [doR_plain (.inl (show (15 : Int) ≤ 16 by decide)) (v := f A / 2 ^ i.toNat) (by show f A / 2 ^ (i % 4294967296 % 32).toNat = _; rw [shR hi'])]; exact (do_15 B D A E _ i f W (by omega) (by omega) (by omega) hm hf hi').mono fun e w' h => ld_of hmem hB h
theorem doa_16 (B M F R D A E : Nat) (i : Int) (K : Bk) (f : Nat → Int) (b : List Nat) (W : World) (hd : D < 64) (ha : A < 64) (hbb : E < 64) (hsh : 14 ≤ (16 : Int) → (16 : Int) ≤ 16 → 0 ≤ i ∧ i ≤ 31) (hm : MachV B (some ⟨M, 0, none⟩) f W) (hmem : MemIs M F R K.ff K.rr K.Fb b W) (hb : Banks K.ff K.Fb.length K.rr b.length) (hB : B ≠ M ∧ B ≠ F ∧ B ≠ R) (hf : WordsF f) (ld : ∀ op : Int, (ldR K ⟨op, D, A, E, i⟩ f b).1 < 4294967296) :
    Calls Try.prog 20 #[.pointer (some ⟨B, 0, none⟩), .agg #[.int .i64 16, .int .i64 D, .int .i64 A, .int .i64 E, .int .i32 i]] W (LdPost B M F R K (doR K ⟨16, D, A, E, i⟩ f b) W) := by
  have hi' := hsh (by omega) (by omega)
  rw [doR_plain (.inl (show (16 : Int) ≤ 16 by decide)) (v := sg (f A) / 2 ^ i.toNat % 4294967296) (by show sg (f A) / 2 ^ (i % 4294967296 % 32).toNat % 4294967296 = _; rw [shR hi'])]; exact (do_16 B D A E _ i f W (by omega) (by omega) (by omega) hm hf hi').mono fun e w' h => ld_of hmem hB h
theorem doa_17 (B M F R D A E : Nat) (i : Int) (K : Bk) (f : Nat → Int) (b : List Nat) (W : World) (hd : D < 64) (ha : A < 64) (hbb : E < 64) (hsh : 14 ≤ (17 : Int) → (17 : Int) ≤ 16 → 0 ≤ i ∧ i ≤ 31) (hm : MachV B (some ⟨M, 0, none⟩) f W) (hmem : MemIs M F R K.ff K.rr K.Fb b W) (hb : Banks K.ff K.Fb.length K.rr b.length) (hB : B ≠ M ∧ B ≠ F ∧ B ≠ R) (hf : WordsF f) (ld : ∀ op : Int, (ldR K ⟨op, D, A, E, i⟩ f b).1 < 4294967296) :
    Calls Try.prog 20 #[.pointer (some ⟨B, 0, none⟩), .agg #[.int .i64 17, .int .i64 D, .int .i64 A, .int .i64 E, .int .i32 i]] W (LdPost B M F R K (doR K ⟨17, D, A, E, i⟩ f b) W) := by
  by_cases ht : (ldR K ⟨17, D, A, E, i⟩ f b).2 = 0
  · have e1 : ldR K ⟨17, D, A, E, i⟩ f b = ((ldR K ⟨17, D, A, E, i⟩ f b).1, 0) := Prod.ext rfl ht
    have e2 : doR K ⟨17, D, A, E, i⟩ f b = ⟨0, upd f D (sextS ((ldR K ⟨17, D, A, E, i⟩ f b).1 : Nat) 8), b⟩ := by unfold doR; rw [if_neg (by simp), if_pos (by simp), if_neg (by rw [ht]; simp)]; rfl
    rw [e2]; exact dov_17 B M F R D A E i K f b W (by omega) (by omega) (by omega) hm hmem hb hB hf _ (ld 17) e1
  · have e2 : doR K ⟨17, D, A, E, i⟩ f b = ⟨(ldR K ⟨17, D, A, E, i⟩ f b).2, f, b⟩ := by unfold doR; rw [if_neg (by simp), if_pos (by simp), if_pos ht]
    rw [e2]; exact dot_17 B M F R D A E i K f b W (by omega) (by omega) (by omega) hm hmem hb hB hf _ _ (by simpa using ht) rfl
theorem doa_18 (B M F R D A E : Nat) (i : Int) (K : Bk) (f : Nat → Int) (b : List Nat) (W : World) (hd : D < 64) (ha : A < 64) (hbb : E < 64) (hsh : 14 ≤ (18 : Int) → (18 : Int) ≤ 16 → 0 ≤ i ∧ i ≤ 31) (hm : MachV B (some ⟨M, 0, none⟩) f W) (hmem : MemIs M F R K.ff K.rr K.Fb b W) (hb : Banks K.ff K.Fb.length K.rr b.length) (hB : B ≠ M ∧ B ≠ F ∧ B ≠ R) (hf : WordsF f) (ld : ∀ op : Int, (ldR K ⟨op, D, A, E, i⟩ f b).1 < 4294967296) :
    Calls Try.prog 20 #[.pointer (some ⟨B, 0, none⟩), .agg #[.int .i64 18, .int .i64 D, .int .i64 A, .int .i64 E, .int .i32 i]] W (LdPost B M F R K (doR K ⟨18, D, A, E, i⟩ f b) W) := by
  by_cases ht : (ldR K ⟨18, D, A, E, i⟩ f b).2 = 0
  · have e1 : ldR K ⟨18, D, A, E, i⟩ f b = ((ldR K ⟨18, D, A, E, i⟩ f b).1, 0) := Prod.ext rfl ht
    have e2 : doR K ⟨18, D, A, E, i⟩ f b = ⟨0, upd f D (((ldR K ⟨18, D, A, E, i⟩ f b).1 : Nat)), b⟩ := by unfold doR; rw [if_neg (by simp), if_pos (by simp), if_neg (by rw [ht]; simp)]; rfl
    rw [e2]; exact dov_18 B M F R D A E i K f b W (by omega) (by omega) (by omega) hm hmem hb hB hf _ (ld 18) e1
  · have e2 : doR K ⟨18, D, A, E, i⟩ f b = ⟨(ldR K ⟨18, D, A, E, i⟩ f b).2, f, b⟩ := by unfold doR; rw [if_neg (by simp), if_pos (by simp), if_pos ht]
    rw [e2]; exact dot_18 B M F R D A E i K f b W (by omega) (by omega) (by omega) hm hmem hb hB hf _ _ (by simpa using ht) rfl
theorem doa_19 (B M F R D A E : Nat) (i : Int) (K : Bk) (f : Nat → Int) (b : List Nat) (W : World) (hd : D < 64) (ha : A < 64) (hbb : E < 64) (hsh : 14 ≤ (19 : Int) → (19 : Int) ≤ 16 → 0 ≤ i ∧ i ≤ 31) (hm : MachV B (some ⟨M, 0, none⟩) f W) (hmem : MemIs M F R K.ff K.rr K.Fb b W) (hb : Banks K.ff K.Fb.length K.rr b.length) (hB : B ≠ M ∧ B ≠ F ∧ B ≠ R) (hf : WordsF f) (ld : ∀ op : Int, (ldR K ⟨op, D, A, E, i⟩ f b).1 < 4294967296) :
    Calls Try.prog 20 #[.pointer (some ⟨B, 0, none⟩), .agg #[.int .i64 19, .int .i64 D, .int .i64 A, .int .i64 E, .int .i32 i]] W (LdPost B M F R K (doR K ⟨19, D, A, E, i⟩ f b) W) := by
  by_cases ht : (ldR K ⟨19, D, A, E, i⟩ f b).2 = 0
  · have e1 : ldR K ⟨19, D, A, E, i⟩ f b = ((ldR K ⟨19, D, A, E, i⟩ f b).1, 0) := Prod.ext rfl ht
    have e2 : doR K ⟨19, D, A, E, i⟩ f b = ⟨0, upd f D (sextS ((ldR K ⟨19, D, A, E, i⟩ f b).1 : Nat) 16), b⟩ := by unfold doR; rw [if_neg (by simp), if_pos (by simp), if_neg (by rw [ht]; simp)]; simp only [extR_19, Int.toNat_natCast]
    rw [e2]; exact dov_19 B M F R D A E i K f b W (by omega) (by omega) (by omega) hm hmem hb hB hf _ (ld 19) e1
  · have e2 : doR K ⟨19, D, A, E, i⟩ f b = ⟨(ldR K ⟨19, D, A, E, i⟩ f b).2, f, b⟩ := by unfold doR; rw [if_neg (by simp), if_pos (by simp), if_pos ht]
    rw [e2]; exact dot_19 B M F R D A E i K f b W (by omega) (by omega) (by omega) hm hmem hb hB hf _ _ (by simpa using ht) rfl
theorem doa_20 (B M F R D A E : Nat) (i : Int) (K : Bk) (f : Nat → Int) (b : List Nat) (W : World) (hd : D < 64) (ha : A < 64) (hbb : E < 64) (hsh : 14 ≤ (20 : Int) → (20 : Int) ≤ 16 → 0 ≤ i ∧ i ≤ 31) (hm : MachV B (some ⟨M, 0, none⟩) f W) (hmem : MemIs M F R K.ff K.rr K.Fb b W) (hb : Banks K.ff K.Fb.length K.rr b.length) (hB : B ≠ M ∧ B ≠ F ∧ B ≠ R) (hf : WordsF f) (ld : ∀ op : Int, (ldR K ⟨op, D, A, E, i⟩ f b).1 < 4294967296) :
    Calls Try.prog 20 #[.pointer (some ⟨B, 0, none⟩), .agg #[.int .i64 20, .int .i64 D, .int .i64 A, .int .i64 E, .int .i32 i]] W (LdPost B M F R K (doR K ⟨20, D, A, E, i⟩ f b) W) := by
  by_cases ht : (ldR K ⟨20, D, A, E, i⟩ f b).2 = 0
  · have e1 : ldR K ⟨20, D, A, E, i⟩ f b = ((ldR K ⟨20, D, A, E, i⟩ f b).1, 0) := Prod.ext rfl ht
    have e2 : doR K ⟨20, D, A, E, i⟩ f b = ⟨0, upd f D (sextS ((ldR K ⟨20, D, A, E, i⟩ f b).1 : Nat) 32), b⟩ := by unfold doR; rw [if_neg (by simp), if_pos (by simp), if_neg (by rw [ht]; simp)]; simp only [extR_20, Int.toNat_natCast]
    rw [e2]; exact dov_20 B M F R D A E i K f b W (by omega) (by omega) (by omega) hm hmem hb hB hf _ (ld 20) e1
  · have e2 : doR K ⟨20, D, A, E, i⟩ f b = ⟨(ldR K ⟨20, D, A, E, i⟩ f b).2, f, b⟩ := by unfold doR; rw [if_neg (by simp), if_pos (by simp), if_pos ht]
    rw [e2]; exact dot_20 B M F R D A E i K f b W (by omega) (by omega) (by omega) hm hmem hb hB hf _ _ (by simpa using ht) rfl
theorem doa_21 (B M F R D A E : Nat) (i : Int) (K : Bk) (f : Nat → Int) (b : List Nat) (W : World) (hd : D < 64) (ha : A < 64) (hbb : E < 64) (hsh : 14 ≤ (21 : Int) → (21 : Int) ≤ 16 → 0 ≤ i ∧ i ≤ 31) (hm : MachV B (some ⟨M, 0, none⟩) f W) (hmem : MemIs M F R K.ff K.rr K.Fb b W) (hb : Banks K.ff K.Fb.length K.rr b.length) (hB : B ≠ M ∧ B ≠ F ∧ B ≠ R) (hf : WordsF f) (ld : ∀ op : Int, (ldR K ⟨op, D, A, E, i⟩ f b).1 < 4294967296) :
    Calls Try.prog 20 #[.pointer (some ⟨B, 0, none⟩), .agg #[.int .i64 21, .int .i64 D, .int .i64 A, .int .i64 E, .int .i32 i]] W (LdPost B M F R K (doR K ⟨21, D, A, E, i⟩ f b) W) := by
  have hs : sizeR 21 = 1 := rfl
  have hc : ((E : Nat) : Int).toNat = E := Int.toNat_natCast E
  have hst : stR K ⟨21, D, A, E, i⟩ f b = storeS K.rr b.length (atR ⟨21, D, A, E, i⟩ f) 1 := by unfold stR; simp only [hs]
  have e2 : doR K ⟨21, D, A, E, i⟩ f b = ⟨stR K ⟨21, D, A, E, i⟩ f b, f, ramS K.rr b.length b (atR ⟨21, D, A, E, i⟩ f) 1 (f E).toNat⟩ := by
    unfold doR
    rw [if_neg (by simp), if_neg (by simp), if_pos (by simp)]
    by_cases ht : stR K ⟨21, D, A, E, i⟩ f b = 0
    · rw [if_neg (by rw [ht]; simp), ht]; simp only [hs, hc]
    · rw [if_pos ht]
      unfold ramS
      rw [if_neg (by rw [← hst]; exact ht)]
  rw [e2]; exact dos_21 B M F R D A E i K f b W (by omega) (by omega) (by omega) hm hmem hb hB hf
theorem doa_22 (B M F R D A E : Nat) (i : Int) (K : Bk) (f : Nat → Int) (b : List Nat) (W : World) (hd : D < 64) (ha : A < 64) (hbb : E < 64) (hsh : 14 ≤ (22 : Int) → (22 : Int) ≤ 16 → 0 ≤ i ∧ i ≤ 31) (hm : MachV B (some ⟨M, 0, none⟩) f W) (hmem : MemIs M F R K.ff K.rr K.Fb b W) (hb : Banks K.ff K.Fb.length K.rr b.length) (hB : B ≠ M ∧ B ≠ F ∧ B ≠ R) (hf : WordsF f) (ld : ∀ op : Int, (ldR K ⟨op, D, A, E, i⟩ f b).1 < 4294967296) :
    Calls Try.prog 20 #[.pointer (some ⟨B, 0, none⟩), .agg #[.int .i64 22, .int .i64 D, .int .i64 A, .int .i64 E, .int .i32 i]] W (LdPost B M F R K (doR K ⟨22, D, A, E, i⟩ f b) W) := by
  have hs : sizeR 22 = 4 := rfl
  have hc : ((E : Nat) : Int).toNat = E := Int.toNat_natCast E
  have hst : stR K ⟨22, D, A, E, i⟩ f b = storeS K.rr b.length (atR ⟨22, D, A, E, i⟩ f) 4 := by unfold stR; simp only [hs]
  have e2 : doR K ⟨22, D, A, E, i⟩ f b = ⟨stR K ⟨22, D, A, E, i⟩ f b, f, ramS K.rr b.length b (atR ⟨22, D, A, E, i⟩ f) 4 (f E).toNat⟩ := by
    unfold doR
    rw [if_neg (by simp), if_neg (by simp), if_pos (by simp)]
    by_cases ht : stR K ⟨22, D, A, E, i⟩ f b = 0
    · rw [if_neg (by rw [ht]; simp), ht]; simp only [hs, hc]
    · rw [if_pos ht]
      unfold ramS
      rw [if_neg (by rw [← hst]; exact ht)]
  rw [e2]; exact dos_22 B M F R D A E i K f b W (by omega) (by omega) (by omega) hm hmem hb hB hf
theorem doa_23 (B M F R D A E : Nat) (i : Int) (K : Bk) (f : Nat → Int) (b : List Nat) (W : World) (hd : D < 64) (ha : A < 64) (hbb : E < 64) (hsh : 14 ≤ (23 : Int) → (23 : Int) ≤ 16 → 0 ≤ i ∧ i ≤ 31) (hm : MachV B (some ⟨M, 0, none⟩) f W) (hmem : MemIs M F R K.ff K.rr K.Fb b W) (hb : Banks K.ff K.Fb.length K.rr b.length) (hB : B ≠ M ∧ B ≠ F ∧ B ≠ R) (hf : WordsF f) (ld : ∀ op : Int, (ldR K ⟨op, D, A, E, i⟩ f b).1 < 4294967296) :
    Calls Try.prog 20 #[.pointer (some ⟨B, 0, none⟩), .agg #[.int .i64 23, .int .i64 D, .int .i64 A, .int .i64 E, .int .i32 i]] W (LdPost B M F R K (doR K ⟨23, D, A, E, i⟩ f b) W) := by
  rw [doR_plain (.inr rfl) rfl]; exact (do_23 B D A E _ i f W (by omega) (by omega) (by omega) hm hf).mono fun e w' h => ld_of hmem hB h
set_option maxRecDepth 100000 in
theorem dov_any (B M F R : Nat) (K : Bk) (x : Q5) (f : Nat → Int) (b : List Nat) (W : World) (hx : OkR x) (h24 : x.o ≠ 24) (hm : MachV B (some ⟨M, 0, none⟩) f W) (hmem : MemIs M F R K.ff K.rr K.Fb b W) (hb : Banks K.ff K.Fb.length K.rr b.length) (hB : B ≠ M ∧ B ≠ F ∧ B ≠ R) (hf : WordsF f) :
    Calls Try.prog 20 #[.pointer (some ⟨B, 0, none⟩), .agg #[.int .i64 x.o, .int .i64 x.d, .int .i64 x.a, .int .i64 x.b, .int .i32 x.i]] W (LdPost B M F R K (doR K x f b) W) := by
  obtain ⟨o, d, a, c, i⟩ := x
  obtain ⟨ho, hd, ha, hbb, hi, hsh, hlo⟩ := hx
  simp only at ho hd ha hbb hi hsh hlo h24
  obtain ⟨D, rfl⟩ : ∃ D : Nat, d = D := ⟨d.toNat, by omega⟩
  obtain ⟨A, rfl⟩ : ∃ A : Nat, a = A := ⟨a.toNat, by omega⟩
  obtain ⟨E, rfl⟩ : ∃ E : Nat, c = E := ⟨c.toNat, by omega⟩
  have ld : ∀ op : Int, (ldR K ⟨op, D, A, E, i⟩ f b).1 < 4294967296 := fun op => loadS_lt' hmem.fF hmem.fR _ _ (by rcases sizeR_is op with g | g | g <;> (show sizeR op ≤ 4; omega))
  have lo := ho.1
  refine case_up lo (fun e => by subst e; exact doa_1 B M F R D A E i K f b W (by omega) (by omega) (by omega) hsh hm hmem hb hB hf ld) (fun lo => ?_)
  refine case_up lo (fun e => by subst e; exact doa_2 B M F R D A E i K f b W (by omega) (by omega) (by omega) hsh hm hmem hb hB hf ld) (fun lo => ?_)
  refine case_up lo (fun e => by subst e; exact doa_3 B M F R D A E i K f b W (by omega) (by omega) (by omega) hsh hm hmem hb hB hf ld) (fun lo => ?_)
  refine case_up lo (fun e => by subst e; exact doa_4 B M F R D A E i K f b W (by omega) (by omega) (by omega) hsh hm hmem hb hB hf ld) (fun lo => ?_)
  refine case_up lo (fun e => by subst e; exact doa_5 B M F R D A E i K f b W (by omega) (by omega) (by omega) hsh hm hmem hb hB hf ld) (fun lo => ?_)
  refine case_up lo (fun e => by subst e; exact doa_6 B M F R D A E i K f b W (by omega) (by omega) (by omega) hsh hm hmem hb hB hf ld) (fun lo => ?_)
  refine case_up lo (fun e => by subst e; exact doa_7 B M F R D A E i K f b W (by omega) (by omega) (by omega) hsh hm hmem hb hB hf ld) (fun lo => ?_)
  refine case_up lo (fun e => by subst e; exact doa_8 B M F R D A E i K f b W (by omega) (by omega) (by omega) hsh hm hmem hb hB hf ld) (fun lo => ?_)
  refine case_up lo (fun e => by subst e; exact doa_9 B M F R D A E i K f b W (by omega) (by omega) (by omega) hsh hm hmem hb hB hf ld) (fun lo => ?_)
  refine case_up lo (fun e => by subst e; exact doa_10 B M F R D A E i K f b W (by omega) (by omega) (by omega) hsh hm hmem hb hB hf ld) (fun lo => ?_)
  refine case_up lo (fun e => by subst e; exact doa_11 B M F R D A E i K f b W (by omega) (by omega) (by omega) hsh hm hmem hb hB hf ld) (fun lo => ?_)
  refine case_up lo (fun e => by subst e; exact doa_12 B M F R D A E i K f b W (by omega) (by omega) (by omega) hsh hm hmem hb hB hf ld) (fun lo => ?_)
  refine case_up lo (fun e => by subst e; exact doa_13 B M F R D A E i K f b W (by omega) (by omega) (by omega) hsh hm hmem hb hB hf ld) (fun lo => ?_)
  refine case_up lo (fun e => by subst e; exact doa_14 B M F R D A E i K f b W (by omega) (by omega) (by omega) hsh hm hmem hb hB hf ld) (fun lo => ?_)
  refine case_up lo (fun e => by subst e; exact doa_15 B M F R D A E i K f b W (by omega) (by omega) (by omega) hsh hm hmem hb hB hf ld) (fun lo => ?_)
  refine case_up lo (fun e => by subst e; exact doa_16 B M F R D A E i K f b W (by omega) (by omega) (by omega) hsh hm hmem hb hB hf ld) (fun lo => ?_)
  refine case_up lo (fun e => by subst e; exact doa_17 B M F R D A E i K f b W (by omega) (by omega) (by omega) hsh hm hmem hb hB hf ld) (fun lo => ?_)
  refine case_up lo (fun e => by subst e; exact doa_18 B M F R D A E i K f b W (by omega) (by omega) (by omega) hsh hm hmem hb hB hf ld) (fun lo => ?_)
  refine case_up lo (fun e => by subst e; exact doa_19 B M F R D A E i K f b W (by omega) (by omega) (by omega) hsh hm hmem hb hB hf ld) (fun lo => ?_)
  refine case_up lo (fun e => by subst e; exact doa_20 B M F R D A E i K f b W (by omega) (by omega) (by omega) hsh hm hmem hb hB hf ld) (fun lo => ?_)
  refine case_up lo (fun e => by subst e; exact doa_21 B M F R D A E i K f b W (by omega) (by omega) (by omega) hsh hm hmem hb hB hf ld) (fun lo => ?_)
  refine case_up lo (fun e => by subst e; exact doa_22 B M F R D A E i K f b W (by omega) (by omega) (by omega) hsh hm hmem hb hB hf ld) (fun lo => ?_)
  refine case_up lo (fun e => by subst e; exact doa_23 B M F R D A E i K f b W (by omega) (by omega) (by omega) hsh hm hmem hb hB hf ld) (fun lo => ?_)
  exact absurd (show o = 24 by omega) h24
end Go.Proofs.Ytlieapapmkbbgaa

namespace Go.Proofs.Ytlieapapmkbbgaa
open Go Go.RowKit Pl
set_option linter.unusedVariables false

set_option maxHeartbeats 2000000 in
theorem do_24 (B D A E : Nat) (imm : Int) (mp : Option Addr) (f : Nat → Int) (w : World) (hD : D < 64) (hA : A < 64) (hE : E < 64) (hm : MachV B mp f w) :
    Calls Try.prog 20 #[.pointer (some ⟨B, 0, none⟩), .agg #[.int .i64 24, .int .i64 D, .int .i64 A, .int .i64 E, .int .i32 imm]] w fun e w' => e = .returned (.int .i64 0) ∧ Below w.heap.size w w' := by
  have cA := hm.v A hA
  have cE := hm.v E hE
  have lt := hm.lt
  have gA : (A : Int) < 64 := by omega
  have gE : (E : Int) < 64 := by omega
  have pA : (0 : Int) ≤ (A : Int) := by omega
  have pE : (0 : Int) ≤ (E : Int) := by omega
  clear hm
  go_enter Try.func20, Try.ntmps20
  go_wp2_with fail
  go_region
  go_wp2_with fail
  go_ret
  exact ⟨rfl, by go_grown⟩
set_option maxHeartbeats 2000000 in
theorem next_plain (B b0 off c k : Nat) (ev : Value) (n : Nat) (x : Q5) (w : World) (hk : k < n) (hn : n ≤ 1000) (hx : (x.o == 24) = false) (h0 : w.cell? ⟨b0, off + k * 5, none⟩ = some (.int .i64 x.o)) :
    Calls Try.prog 21 #[.pointer (some ⟨B, 0, none⟩), .slice (some ⟨b0, off, none⟩) n c, ev, .int .i64 k] w fun e w' => e = .returned (.int .i64 ((k : Int) + 1)) ∧ Below w.heap.size w w' := by
  have u1 := IntWalk.i64_in ((k : Int) + 1) (by omega)
  have g0 : (0 : Int) ≤ (k : Int) := by omega
  have g1 : (k : Int) < (n : Int) := by omega
  have hx' : (x.o != 24) = true := by simp at hx ⊢; exact hx
  go_enter Try.func21, Try.ntmps21
  go_wp2_with fail
  go_ret
  exact ⟨rfl, by go_grown⟩
theorem upd_cell {w : World} {a : Addr} {f : Nat → Int} {D : Nat} {x : Int} (h : w.cell? a = some (.int .u32 (upd f D x D))) : w.cell? a = some (.int .u32 x) := by
  unfold upd at h
  rw [if_pos rfl] at h
  exact h
set_option maxHeartbeats 4000000 in
theorem next_again (B b0 off c be eo k b D n m ce : Nat) (mp : Option Addr) (f : Nat → Int) (x : Int) (w : World) (hx : Hid (x = (f D - 1) % 4294967296)) (hz : (x == 0) = false) (hk : k < n) (hb : b < n) (hn : n ≤ 1000) (hkm : k < m) (hm : MachV B mp f w) (hf : WordsF f) (hD : D < 64)
    (h0 : w.cell? ⟨b0, off + k * 5, none⟩ = some (.int .i64 24)) (h1 : w.cell? ⟨be, eo + k, none⟩ = some (.int .i64 b)) (h2 : w.cell? ⟨b0, off + b * 5 + 1, none⟩ = some (.int .i64 D)) (hB : b0 ≠ B) (hBe : be ≠ B) :
    Calls Try.prog 21 #[.pointer (some ⟨B, 0, none⟩), .slice (some ⟨b0, off, none⟩) n c, .slice (some ⟨be, eo, none⟩) m ce, .int .i64 k] w fun e w' => e = .returned (.int .i64 ((b : Int) + 1)) ∧ MachV B mp (upd f D x) w' ∧ w.grownBy w' (some B) := by
  have u1 := IntWalk.i64_in ((k : Int) + 1) (by omega)
  have u2 := IntWalk.i64_in ((b : Int) + 1) (by omega)
  have g0 : (0 : Int) ≤ (k : Int) := by omega
  have g1 : (k : Int) < (n : Int) := by omega
  have g2 : (k : Int) < (m : Int) := by omega
  have g3 : (0 : Int) ≤ (b : Int) := by omega
  have g4 : (b : Int) < (n : Int) := by omega
  have g5 : (0 : Int) ≤ (D : Int) := by omega
  have g6 : (D : Int) < 64 := by omega
  have cD := hm.v D hD
  have zD := hm.fz D (by omega)
  have HM := Lib.hid hm
  clear hm
  have M2 := Lib.hid (machV_set (x := (f D - 1) % 4294967296) HM.out hD).drew
  have G2 := Lib.hid (grownS_drew (grownS_set (k := D) (x := .int .u32 ((f D - 1) % 4294967296)) (World.grownBy.refl w (some B))))
  have hz2 := Lib.hid hz
  clear hz
  go_enter Try.func21, Try.ntmps21
  go_wp2_with fail
  go_region
  generalize World.drew (World.setCell _ _ _) = W2 at *
  clear h0 h1 h2 cD zD
  have cD : W2.cell? ⟨B, D, none⟩ = some (.int .u32 ((f D - 1) % 4294967296)) := upd_cell (M2.out.v D hD)
  rw [← hx.out] at cD
  have M3 := Lib.hid (show MachV B mp (upd f D x) W2 from hx.out ▸ M2.out)
  have G3 := Lib.hid G2.out
  clear M2 G2
  have hz3 : (x == 0) = false := hz2.out
  have hz4 : (x != 0) = true := by simp at hz3 ⊢; exact hz3
  go_wp2_with fail
  go_ret
  exact ⟨rfl, M3.out, G3.out⟩
set_option maxHeartbeats 4000000 in
theorem next_out (B b0 off c be eo k b D n m ce : Nat) (mp : Option Addr) (f : Nat → Int) (x : Int) (w : World) (hx : Hid (x = (f D - 1) % 4294967296)) (hz : (x == 0) = true) (hk : k < n) (hb : b < n) (hn : n ≤ 1000) (hkm : k < m) (hm : MachV B mp f w) (hf : WordsF f) (hD : D < 64)
    (h0 : w.cell? ⟨b0, off + k * 5, none⟩ = some (.int .i64 24)) (h1 : w.cell? ⟨be, eo + k, none⟩ = some (.int .i64 b)) (h2 : w.cell? ⟨b0, off + b * 5 + 1, none⟩ = some (.int .i64 D)) (hB : b0 ≠ B) (hBe : be ≠ B) :
    Calls Try.prog 21 #[.pointer (some ⟨B, 0, none⟩), .slice (some ⟨b0, off, none⟩) n c, .slice (some ⟨be, eo, none⟩) m ce, .int .i64 k] w fun e w' => e = .returned (.int .i64 ((k : Int) + 1)) ∧ MachV B mp (upd f D x) w' ∧ w.grownBy w' (some B) := by
  have u1 := IntWalk.i64_in ((k : Int) + 1) (by omega)
  have u2 := IntWalk.i64_in ((b : Int) + 1) (by omega)
  have g0 : (0 : Int) ≤ (k : Int) := by omega
  have g1 : (k : Int) < (n : Int) := by omega
  have g2 : (k : Int) < (m : Int) := by omega
  have g3 : (0 : Int) ≤ (b : Int) := by omega
  have g4 : (b : Int) < (n : Int) := by omega
  have g5 : (0 : Int) ≤ (D : Int) := by omega
  have g6 : (D : Int) < 64 := by omega
  have cD := hm.v D hD
  have zD := hm.fz D (by omega)
  have HM := Lib.hid hm
  clear hm
  have M2 := Lib.hid (machV_set (x := (f D - 1) % 4294967296) HM.out hD).drew
  have G2 := Lib.hid (grownS_drew (grownS_set (k := D) (x := .int .u32 ((f D - 1) % 4294967296)) (World.grownBy.refl w (some B))))
  have hz2 := Lib.hid hz
  clear hz
  go_enter Try.func21, Try.ntmps21
  go_wp2_with fail
  go_region
  generalize World.drew (World.setCell _ _ _) = W2 at *
  clear h0 h1 h2 cD zD
  have cD : W2.cell? ⟨B, D, none⟩ = some (.int .u32 ((f D - 1) % 4294967296)) := upd_cell (M2.out.v D hD)
  rw [← hx.out] at cD
  have M3 := Lib.hid (show MachV B mp (upd f D x) W2 from hx.out ▸ M2.out)
  have G3 := Lib.hid G2.out
  clear M2 G2
  have hz3 : (x == 0) = true := hz2.out
  have hz4 : (x != 0) = false := by simp at hz3 ⊢; exact hz3
  go_wp2_with fail
  go_ret
  exact ⟨rfl, M3.out, G3.out⟩
end Go.Proofs.Ytlieapapmkbbgaa

namespace Go.Proofs.Ytlieapapmkbbgaa
open Go Go.RowKit
set_option linter.unusedVariables false

theorem lay_list (o : Nat) : ∀ (l : List Value) (n : Nat) (z : Array Value), o + n + l.length ≤ z.size →
    ((l.zipIdx n).foldl (fun cs (x : Value × Nat) => cs.setIfInBounds (o + x.2) x.1) z).size = z.size ∧
    (∀ k, k < l.length → ((l.zipIdx n).foldl (fun cs (x : Value × Nat) => cs.setIfInBounds (o + x.2) x.1) z)[o + n + k]? = l[k]?) ∧
    (∀ j, (j < o + n ∨ o + n + l.length ≤ j) → ((l.zipIdx n).foldl (fun cs (x : Value × Nat) => cs.setIfInBounds (o + x.2) x.1) z)[j]? = z[j]?)
  | [], n, z, h => by simp
  | x :: l, n, z, h => by
    have hs : (z.setIfInBounds (o + n) x).size = z.size := by simp
    obtain ⟨h1, h2, h3⟩ := lay_list o l (n + 1) (z.setIfInBounds (o + n) x) (by rw [hs]; simp at h; omega)
    simp only [List.zipIdx_cons, List.foldl_cons]
    refine ⟨by rw [h1, hs], fun k hk => ?_, fun j hj => ?_⟩
    · cases k with
      | zero =>
        rw [h3 _ (by omega)]
        simp at h
        simp [Array.getElem?_setIfInBounds]
        omega
      | succ k =>
        rw [show o + n + (k + 1) = o + (n + 1) + k by omega, h2 k (by simpa using hk)]
        simp
    · rw [h3 j (by simp at hj; omega), Array.getElem?_setIfInBounds, if_neg (by simp at hj; omega)]
theorem lay_arr (o : Nat) (vs z : Array Value) (h : o + vs.size ≤ z.size) :
    (Array.foldl (fun cs (x : Value × Nat) => cs.setIfInBounds (o + x.2) x.1) z vs.zipIdx 0 vs.size).size = z.size ∧
    (∀ k, k < vs.size → (Array.foldl (fun cs (x : Value × Nat) => cs.setIfInBounds (o + x.2) x.1) z vs.zipIdx 0 vs.size)[o + k]? = vs[k]?) ∧
    (∀ j, (j < o ∨ o + vs.size ≤ j) → (Array.foldl (fun cs (x : Value × Nat) => cs.setIfInBounds (o + x.2) x.1) z vs.zipIdx 0 vs.size)[j]? = z[j]?) := by
  obtain ⟨h1, h2, h3⟩ := lay_list o vs.toList 0 z (by simpa using h)
  have e : Array.foldl (fun cs (x : Value × Nat) => cs.setIfInBounds (o + x.2) x.1) z vs.zipIdx 0 vs.size = (vs.toList.zipIdx 0).foldl (fun cs (x : Value × Nat) => cs.setIfInBounds (o + x.2) x.1) z := by
    have e1 : vs.toList.zipIdx 0 = vs.zipIdx.toList := by simp
    rw [e1, Array.foldl_toList]
    congr 1
    simp
  rw [e]
  refine ⟨h1, fun k hk => ?_, fun j hj => h3 j (by simpa using hj)⟩
  have := h2 k (by simpa using hk)
  simpa using this
/-- the cells of 64 words -/
def cellsF (f : Nat → Int) : List Value := (List.range 64).map fun k => .int .u32 (f k)
theorem cellsF_len (f : Nat → Int) : (cellsF f).length = 64 := by simp [cellsF]
theorem cellsF_at (f : Nat → Int) {k : Nat} (h : k < 64) : (cellsF f)[k]? = some (.int .u32 (f k)) := by
  unfold cellsF
  rw [List.getElem?_map, List.getElem?_range h]; rfl
end Go.Proofs.Ytlieapapmkbbgaa

namespace Go.Proofs.Ytlieapapmkbbgaa
open Go Go.RowKit Pl
set_option linter.unusedVariables false

theorem l5_outV {w w' : World} {b0 off : Nat} {l : List Q5} {S : Nat → Prop} (h : L5 w (some ⟨b0, off, none⟩) l) (hg : Out S w w') (hB : ¬ S b0) : L5 w' (some ⟨b0, off, none⟩) l := by
  obtain ⟨h1, h2 | ⟨b, o, e, hlt, hc⟩⟩ := h
  · exact ⟨h1, Or.inl h2⟩
  · obtain ⟨rfl, rfl⟩ : b0 = b ∧ off = o := by simpa using e
    refine ⟨h1, Or.inr ⟨b0, off, rfl, Nat.lt_of_lt_of_le hlt hg.size, fun k x hx => ?_⟩⟩
    obtain ⟨c0, c1, c2, c3, c4⟩ := hc k x hx
    exact ⟨(hg.cell (by exact hlt) hB).trans c0, (hg.cell (by exact hlt) hB).trans c1, (hg.cell (by exact hlt) hB).trans c2, (hg.cell (by exact hlt) hB).trans c3, (hg.cell (by exact hlt) hB).trans c4⟩
theorem l5_atV {w : World} {b0 off k : Nat} {l : List Q5} {x : Q5} (h : L5 w (some ⟨b0, off, none⟩) l) (hx : l[k]? = some x) :
    w.cell? ⟨b0, off + k * 5, none⟩ = some (.int .i64 x.o) ∧ w.cell? ⟨b0, off + k * 5 + 1, none⟩ = some (.int .i64 x.d) ∧ w.cell? ⟨b0, off + k * 5 + 2, none⟩ = some (.int .i64 x.a) ∧
    w.cell? ⟨b0, off + k * 5 + 3, none⟩ = some (.int .i64 x.b) ∧ w.cell? ⟨b0, off + k * 5 + 4, none⟩ = some (.int .i32 x.i) := by
  obtain ⟨h1, rfl | ⟨b, o, e, hlt, hc⟩⟩ := h
  · simp at hx
  · obtain ⟨rfl, rfl⟩ : b0 = b ∧ off = o := by simpa using e
    exact hc k x hx
def zcV : Array Value := ((List.replicate 64 (Value.int .u32 0)) ++ [Value.pointer none]).toArray
theorem zvV (w : World) : (zeroValue 57).run Try.prog w = .ok (.agg zcV) w := by kernel_rfl
theorem zcV_size : zcV.size = 65 := by kernel_rfl
theorem zcV_ne : ¬ zcV = #[] := fun h => by have := congrArg Array.size h; rw [zcV_size] at this; cases this
noncomputable def zsV (M : Nat) : Array Value := zcV.setIfInBounds 64 (.pointer (some ⟨M, 0, none⟩))
theorem zsV_eq (M : Nat) : zsV M = ((List.replicate 64 (Value.int .u32 0)) ++ [Value.pointer (some ⟨M, 0, none⟩)]).toArray := by kernel_rfl
theorem zsV_size (M : Nat) : (zsV M).size = 65 := by kernel_rfl
theorem zsV_one (M : Nat) : (zsV M).all (·.oneCell') = true := by kernel_rfl
theorem zsV_at (M : Nat) : ∀ k, k < 64 → (zsV M)[k]? = some (.int .u32 0) := fun k hk => by
  rw [zsV_eq, List.getElem?_toArray, List.getElem?_append_left (by rw [List.length_replicate]; exact hk), List.getElem?_replicate, if_pos hk]
theorem below_setRowV {m : Nat} {w W : World} {g : Nat} {cs : Array Value} (h : Below m w W) (hm : m ≤ g) : Below m w (W.setRow g cs) :=
  ⟨h.os, h.tape, h.output, by have := h.size; simp [World.setRow]; omega, fun i hi => (setRow_other _ _ _ _ (by omega)).trans (h.block i hi)⟩
theorem info_u32V : (Try.prog.info? 50).map (fun i => (i.zero, i.size, i.bytes)) = some (some (.int .u32 0), 1, 4) := by kernel_rfl
/-- four results, all in temporaries -/
theorem res_fourV {fn : Func} {a b c d : Tmp} (h : fn.results = #[.tmp a, .tmp b, .tmp c, .tmp d]) (tmps : Array Value) (P : Program) (w : World) :
    (Go.results fn tmps).run P w = .ok (.tuple #[tmps.getD a undef, tmps.getD b undef, tmps.getD c undef, tmps.getD d undef]) w := by
  simp [Go.results, h]
theorem machV_new {w : World} {B M : Nat} {old : Array Value} {t : TypeId} (hg : w.heap[B]? = some (.cells old t (0, 0))) : MachV B (some ⟨M, 0, none⟩) (fun _ => 0) (w.setRow B (zsV M)) := by
  have h := setRow_heap w B old (zsV M) t (0, 0) hg
  obtain ⟨hl, _⟩ := Array.getElem?_eq_some_iff.1 h
  refine ⟨fun k hk => ?_, ?_, fun k hk => ?_, hl⟩
  · unfold World.cell?; rw [h]; exact (by simpa using zsV_at M k hk)
  · unfold World.cell?; rw [h, zsV_eq]; rfl
  · unfold World.frozen?; rw [h]; simp
def RunPost (w : World) (M F R : Nat) (K : Bk) (l : List Q5) (E : List Int) (fuel : Int) (b : List Nat) (e : Ending) (w' : World) : Prop :=
  ∃ v, e = .returned (.tuple #[v, .int .i64 ((runL K l E fuel.toNat ⟨0, fun _ => 0, b⟩).n : Nat), .int .i64 (runL K l E fuel.toNat ⟨0, fun _ => 0, b⟩).t, .int .i64 0]) ∧
    w'.ownsRow w.heap.size 50 1 v 64 (cellsF (runL K l E fuel.toNat ⟨0, fun _ => 0, b⟩).s.f) ∧ MemIs M F R K.ff K.rr K.Fb (runL K l E fuel.toNat ⟨0, fun _ => 0, b⟩).s.b w' ∧
    (runL K l E fuel.toNat ⟨0, fun _ => 0, b⟩).s.b.length = b.length ∧ Out (fun j => j = R ∨ w.heap.size ≤ j) w w'
theorem run_post {w w' : World} {M F R : Nat} {K : Bk} {l : List Q5} {E : List Int} {fuel : Int} {b : List Nat} {n : Nat} {t : Int} {s : LS} {v : Value} {e : Ending} (hr : runL K l E fuel.toNat ⟨0, fun _ => 0, b⟩ = ⟨n, t, s⟩)
    (he : e = .returned (.tuple #[v, .int .i64 (n : Nat), .int .i64 t, .int .i64 0])) (ho : w'.ownsRow w.heap.size 50 1 v 64 (cellsF s.f)) (hm : MemIs M F R K.ff K.rr K.Fb s.b w') (hb : s.b.length = b.length) (hO : Out (fun j => j = R ∨ w.heap.size ≤ j) w w') : RunPost w M F R K l E fuel b e w' := by
  unfold RunPost
  rw [hr]
  exact ⟨v, he, ho, hm, hb, hO⟩
theorem ite_bdV {c : Prop} [Decidable c] {a b : Int} (h1 : c → 0 ≤ a ∧ a < 4294967296) (h2 : ¬ c → 0 ≤ b ∧ b < 4294967296) : 0 ≤ (if c then a else b) ∧ (if c then a else b) < 4294967296 := by
  split
  · exact h1 (by assumption)
  · exact h2 (by assumption)
theorem sextS_bdV (x n : Int) (h0 : 0 ≤ x) (h1 : x < 4294967296) : 0 ≤ sextS x n ∧ sextS x n < 4294967296 := by
  unfold sextS; repeat' (apply ite_bdV <;> intro _)
  all_goals omega
theorem words_doR {K : Bk} {x : Q5} {f : Nat → Int} {b : List Nat} (hf : WordsF f) (hF : ∀ x ∈ K.Fb, x < 256) (hR : ∀ x ∈ b, x < 256) : WordsF (doR K x f b).f := by
  unfold doR
  split
  · refine wordsF_upd hf _ ?_
    unfold valR
    split
    · exact ⟨Int.emod_nonneg _ (by omega), Int.emod_lt_of_pos _ (by omega)⟩
    split
    · exact hf _
    · refine aluS_bd (hf _).1 (hf _).2 ?_ ?_
      · split
        · exact Int.emod_nonneg _ (by omega)
        · exact (hf _).1
      · split
        · exact Int.emod_lt_of_pos _ (by omega)
        · exact (hf _).2
  split
  · split
    · exact hf
    · refine wordsF_upd hf _ ?_
      have h : (ldR K x f b).1 < 4294967296 := loadS_lt' hF hR _ _ (by rcases sizeR_is x.o with g | g | g <;> omega)
      unfold extR
      split
      · omega
      · exact sextS_bdV _ _ (by omega) (by omega)
  split
  · split <;> exact hf
  · exact hf
theorem len_doR {K : Bk} {x : Q5} {f : Nat → Int} {b : List Nat} : (doR K x f b).b.length = b.length := by
  unfold doR
  split
  · rfl
  split
  · split <;> rfl
  split
  · split
    · rfl
    · exact ramS_length _ _ _ _ _
  · rfl
theorem trap_doR {K : Bk} {x : Q5} {f : Nat → Int} {b : List Nat} (h : (doR K x f b).t ≠ 0) : (doR K x f b).f = f ∧ (doR K x f b).b = b := by
  unfold doR at h ⊢
  split
  · rename_i g; rw [if_pos g] at h; exact absurd rfl h
  · rename_i g
    rw [if_neg g] at h
    split
    · rename_i g2
      rw [if_pos g2] at h
      split
      · exact ⟨rfl, rfl⟩
      · rename_i g3; rw [if_neg g3] at h; exact absurd rfl h
    · rename_i g2
      rw [if_neg g2] at h
      split
      · rename_i g3
        rw [if_pos g3] at h
        split
        · exact ⟨rfl, rfl⟩
        · rename_i g4; rw [if_neg g4] at h; exact absurd rfl h
      · exact ⟨rfl, rfl⟩
theorem words_set {f : Nat → Int} (hf : WordsF f) (c : Nat) : WordsF (upd f c ((f c - 1) % 4294967296)) := wordsF_upd hf _ ⟨Int.emod_nonneg _ (by omega), Int.emod_lt_of_pos _ (by omega)⟩
set_option maxHeartbeats 1000000 in
theorem run_bad (fuel z : Int) (l : List Q5) (a : Option Addr) (cp : Nat) (mp : Option Addr) (w : World) (hl : L5 w a l) (hchk : checkS l = z) (hz : (z == 0) = false) :
    Calls Try.prog 9 #[.slice a l.length cp, .pointer mp, .int .i64 fuel] w fun e w' => e = .returned (.tuple #[.slice none 0 0, .int .i64 0, .int .i64 0, .int .i64 z]) ∧ Below w.heap.size w w' := by
  have CH := Lib.hid (check_any a cp l)
  have HCK := Lib.hid hchk
  have hz2 : (z != 0) = true := by simp at hz ⊢; exact hz
  clear hchk
  go_enter Try.func9, Try.ntmps9
  go_wp2_with fail
  refine (CH.out _ hl).mono ?_
  rw [HCK.out]
  rintro e w1 ⟨rfl, b1⟩
  go_wp2_with fail
  (try simp only [Exit.inBlock, Exit.then])
  refine bodyPost_ret (res_fourV rfl _ _ _) rfl ?_
  exact ⟨rfl, b1⟩
set_option maxRecDepth 100000 in
set_option maxHeartbeats 3000000 in
theorem run_mem (fuel : Int) (l : List Q5) (a : Option Addr) (cp : Nat) (E : List Int) (w : World) (K : Bk) (M F R : Nat) (b : List Nat) (hp : Prog1 l E) (hll : l.length ≤ 60) (hl : L5 w a l) (hR : l = [] ∨ ∀ x, a = some x → x.block ≠ R) (hmem : MemIs M F R K.ff K.rr K.Fb b w) (hbk : Banks K.ff K.Fb.length K.rr b.length) (hlt : M < w.heap.size ∧ F < w.heap.size ∧ R < w.heap.size) (hchk : checkS l = 0) (hf : fuel ≤ 100000) :
    Calls Try.prog 9 #[.slice a l.length cp, .pointer (some ⟨M, 0, none⟩), .int .i64 fuel] w (RunPost w M F R K l E fuel b) := by
  have CH := Lib.hid (check_any a cp l)
  have EN := Lib.hid (fun w hl => ends_any a cp l w hl)
  have HCK := Lib.hid hchk
  have HE := Lib.hid hp.E
  obtain ⟨hEl, hg2, hg3⟩ := ends_facts hp.E
  have HEL := Lib.hid hEl
  have G2 := Lib.hid hg2
  have G3 := Lib.hid hg3
  have HL := Lib.hid hl
  have HMEM := Lib.hid hmem
  have HP := Lib.hid hp
  have HRR := Lib.hid hR
  clear hchk hp hl hmem hEl hg2 hg3 hR
  have hzv := zvV
  have hzs := zcV_size
  have hzn := zcV_ne
  go_enter Try.func9, Try.ntmps9
  go_wp2_with fail
  refine (CH.out _ HL.out).mono ?_
  rw [HCK.out]
  rintro e w1 ⟨rfl, b1⟩
  have L1 := Lib.hid (HL.out.later b1)
  have B1 := Lib.hid b1
  clear b1
  go_wp2_with fail
  refine (EN.out _ L1.out).mono ?_
  rintro e w2 ⟨h2, b2⟩
  rw [HE.out] at h2
  obtain ⟨v2, rfl, own2⟩ := h2
  have SZS := Lib.hid (show (Try.prog.info? 57).map (·.size) = some (zsV M).size by rw [zsV_size]; kernel_rfl)
  have HOS := Lib.hid (show zcV.size = (zsV M).size by rw [zsV_size]; kernel_rfl)
  go_wp2_with (refine wpList_store_row rfl 57 (.tmp 13) (.tmp 28) rfl w2.heap.size (zsV M) rfl rfl 57 _ (heap_alloc_new _ _) SZS.out HOS.out (zsV_one M) ?_; generalize hW3 : World.setRow _ _ (zsV M) = W3; have M3 := Lib.hid (show MachV w2.heap.size (some ⟨M, 0, none⟩) (fun _ => 0) W3 by rw [← hW3]; exact machV_new (heap_alloc_new _ _)); have BW3 := Lib.hid (show Below w2.heap.size w2 W3 by rw [← hW3]; exact below_setRowV ((Below.refl _ _).alloc (Nat.le_refl _) _) (Nat.le_refl _)); clear hW3)
  have L3 := Lib.hid ((L1.out.later b2).later BW3.out)
  have BB := Lib.hid (B1.out.trans (b2.mono (B1.out.size)))
  have hsz : w.heap.size ≤ w2.heap.size := BB.out.size
  have OE := Lib.hid own2
  have N3 := Lib.hid (show MemIs M F R K.ff K.rr K.Fb b W3 from HMEM.out.out (Out.of_below (fun _ => False) (BB.out.trans (BW3.out.mono BB.out.size))) id id id)
  have HBM := Lib.hid (show w2.heap.size ≠ M ∧ w2.heap.size ≠ F ∧ w2.heap.size ≠ R by omega)
  obtain ⟨ea, ec, rfl, hea⟩ := own_i own2 (by have := HEL.out; omega)
  have HEA := Lib.hid hea
  have HRO := Lib.hid (show ∀ k, (Value.slice ea E.length ec).ownBlock = some k → w.heap.size ≤ k from fun k hk => Nat.le_trans B1.out.size (OE.out.lt k hk).1)
  clear hea own2 b2 hlt
  have FU := Lib.hid hf
  clear hf
  go_loopw [14, 15, 16] (fun nv tv av wr => ∃ (n : Nat) (s : LS), nv = .int .i64 n ∧ tv = .int .i64 0 ∧ av = .int .i64 s.p ∧ RchL K l E n ⟨0, fun _ => 0, b⟩ s ∧ n ≤ fuel.toNat ∧ WordsF s.f ∧ s.p ≤ l.length ∧ s.b.length = b.length ∧ MachV w2.heap.size (some ⟨M, 0, none⟩) s.f wr ∧ MemIs M F R K.ff K.rr K.Fb s.b wr ∧ Out (fun j => j = w2.heap.size ∨ j = R) W3 wr) (fun nv _ _ _ => fuel.toNat - (intOf nv).toNat)
  case atStart => exact ⟨0, ⟨0, fun _ => 0, b⟩, rfl, rfl, rfl, .refl _, Nat.zero_le _, (fun k => ⟨Int.le_refl 0, by show (0 : Int) < 4294967296; decide⟩), Nat.zero_le _, rfl, M3.out, N3.out, .refl _ _⟩
  case round =>
    obtain ⟨n, ⟨p, f, rb⟩, rfl, rfl, rfl, hre, hn, hwf, hpl, hbl, hm, hmm, ho⟩ := hrel
    simp only at hre hn hwf hpl hbl hm hmm ho
    have hfu := FU.out
    have HRE := Lib.hid hre
    have HWF := Lib.hid hwf
    have HBL := Lib.hid hbl
    have HM := Lib.hid hm
    have HMM := Lib.hid hmm
    have HO := Lib.hid ho
    clear hre hwf hbl hm hmm ho
    have u1 := IntWalk.i64_in ((n : Int) + 1) (by omega)
    have g0 : (0 : Int) ≤ (p : Int) := by omega
    by_cases hlt : p < l.length
    · have t1 : decide ((p : Int) < (l.length : Int)) = true := by simp; omega
      have g1 : (p : Int) < (l.length : Int) := by omega
      by_cases hnf : (n : Int) < fuel
      · have t2 : decide ((n : Int) < fuel) = true := by simp; omega
        have MEAS := Lib.hid (show fuel.toNat - (n + 1) < fuel.toNat - n by omega)
        have NF := Lib.hid (show n + 1 ≤ fuel.toNat by omega)
        obtain ⟨b0, off, rfl⟩ : ∃ b0 off, a = some ⟨b0, off, none⟩ := by
          obtain ⟨_, rfl | ⟨b0, off, h, _⟩⟩ := L3.out
          · simp at hlt
          · exact ⟨b0, off, h⟩
        have HB0 := Lib.hid (show ¬ (b0 = w2.heap.size ∨ b0 = R) by
          obtain ⟨_, h0 | ⟨b1, o1, h, hh, _⟩⟩ := HL.out
          · rw [h0] at hlt; simp at hlt
          · cases h
            have := (HRR.out.resolve_left (by intro h; rw [h] at hlt; simp at hlt)) _ rfl
            rintro (h | h)
            · omega
            · exact this h)
        obtain ⟨x, hx⟩ : ∃ x, l[p]? = some x := ⟨_, List.getElem?_eq_getElem hlt⟩
        have HX := Lib.hid hx
        have LW := Lib.hid (l5_outV L3.out HO.out HB0.out)
        obtain ⟨c0, c1, c2, c3, c4⟩ := l5_atV LW.out hx
        have OK := Lib.hid (HP.out.ok x (List.mem_of_getElem? hx))
        have HLT := Lib.hid hlt
        clear hx hfu hpl
        by_cases h24 : x.o = 24
        · have okd := OK.out
          obtain ⟨D0, hD0⟩ : ∃ D : Nat, x.d = D := ⟨x.d.toNat, by have := okd.d; omega⟩
          obtain ⟨A0, hA0⟩ : ∃ D : Nat, x.a = D := ⟨x.a.toNat, by have := okd.a; omega⟩
          obtain ⟨E0, hE0⟩ : ∃ D : Nat, x.b = D := ⟨x.b.toNat, by have := okd.b; omega⟩
          have d1 : D0 < 64 := by have := okd.d; omega
          have d2 : A0 < 64 := by have := okd.a; omega
          have d3 : E0 < 64 := by have := okd.b; omega
          rw [h24] at c0
          rw [hD0] at c1
          rw [hA0] at c2
          rw [hE0] at c3
          have SX := Lib.hid (show stepL K l E ⟨p, f, rb⟩ = (0, ⟨if (f (cnL l E p) - 1) % 4294967296 = 0 then p + 1 else bgL E p + 1, upd f (cnL l E p) ((f (cnL l E p) - 1) % 4294967296), rb⟩) by rw [stepL_at HX.out]; unfold stepX; rw [if_pos h24])
          obtain ⟨i, y, hy, hyo, hmt⟩ := G3.out p x HX.out h24
          obtain ⟨k, hk, hE1, hE2⟩ := G2.out i y hy hyo
          rw [hmt] at hk
          obtain rfl : p = k := by injection hk
          have hip := (mate_ge hmt).1
          have oky := HP.out.ok y (List.mem_of_getElem? hy)
          obtain ⟨Dy, hDy⟩ : ∃ D : Nat, y.d = D := ⟨y.d.toNat, by have := oky.d; omega⟩
          have e1 : bgL E p = i := by unfold bgL; rw [List.getD, hE2]; rfl
          have e2 : cnL l E p = Dy := by unfold cnL dOf; rw [e1, hy]; simp [hDy]
          rw [e1, e2] at SX
          have dy : Dy < 64 := by have := oky.d; omega
          have il : i < l.length := by omega
          have CY := Lib.hid (show ∀ W, Out (fun j => j = w2.heap.size ∨ j = R) W3 W → W.cell? ⟨b0, off + p * 5, none⟩ = some (.int .i64 24) ∧ W.cell? ⟨b0, off + i * 5 + 1, none⟩ = some (.int .i64 Dy) from fun W hW => by
            have q1 := (l5_atV (l5_outV L3.out hW HB0.out) HX.out).1
            have q2 := (l5_atV (l5_outV L3.out hW HB0.out) hy).2.1
            rw [h24] at q1
            rw [hDy] at q2
            exact ⟨q1, q2⟩)
          obtain ⟨be, eo, rfl, hbe, hec⟩ : ∃ be eo, ea = some ⟨be, eo, none⟩ ∧ be < w2.heap.size ∧ ∀ W, Out (fun j => j = w2.heap.size ∨ j = R) W3 W → W.cell? ⟨be, eo + p, none⟩ = some (.int .i64 i) := by
            obtain ⟨_, h0 | ⟨be, eo, h1, h2, h3⟩⟩ := HEA.out
            · rw [h0] at hE2; simp at hE2
            · refine ⟨be, eo, h1, h2, fun W hW => ?_⟩
              subst h1
              have nb : ¬ (be = w2.heap.size ∨ be = R) := by
                have k1 := HRO.out
                have k2 := OE.out.lt
                obtain ⟨_, ⟨hv, hn0⟩ | ⟨g, cap, cur, hv, _⟩⟩ := OE.out
                · cases hv
                · have eg : be = g := by injection hv with h _ _; injection h with h; injection h
                  subst eg
                  have eo0 : eo = 0 := by injection hv with h _ _; injection h with h; injection h
                  subst eo0
                  have := k1 be rfl
                  have hRw := HMEM.out.hR
                  have hRl := (Array.getElem?_eq_some_iff.1 hRw).1
                  omega
              exact (hW.cell (by show be < W3.heap.size; have := BW3.out.size; omega) nb).trans ((BW3.out.cell (by exact h2)).trans (h3 p i hE2))
          have HEC := Lib.hid hec
          have EL := Lib.hid (show p < E.length from (List.getElem?_eq_some_iff.1 hE2).1)
          have HBE := Lib.hid (show be ≠ w2.heap.size by omega)
          clear hec hE1 hE2 hy hyo hmt hk okd oky hDy e1 e2 h24 hbe hD0 hA0 hE0
          go_wp2_with fail
          refine (do_24 w2.heap.size D0 A0 E0 x.i (some ⟨M, 0, none⟩) f wr d1 d2 d3 HM.out).mono ?_
          rintro e wa ⟨rfl, hbl4⟩
          have M4 := Lib.hid (HM.out.grown hbl4)
          have O4 := Lib.hid (HO.out.trans (Out.of_below _ hbl4))
          have N4 := Lib.hid (HMM.out.out (Out.of_below (fun _ => False) hbl4) id id id)
          clear hbl4 c0 c1 c2 c3 c4
          go_wp2_with fail
          have NX := Lib.hid (show ∀ q, (f Dy - 1) % 4294967296 = q → True from fun _ _ => trivial)
          obtain ⟨q, hq⟩ : ∃ q, q = (f Dy - 1) % 4294967296 := ⟨_, rfl⟩
          rw [← hq] at SX
          have HQ := Lib.hid hq
          have e60 : l.length ≤ 1000 := by omega
          by_cases hz : q = 0
          · refine (next_out w2.heap.size b0 off cp be eo p i Dy l.length E.length ec (some ⟨M, 0, none⟩) f q wa HQ (by simp [hz]) HLT.out il e60 EL.out M4.out HWF.out dy (CY.out _ O4.out).1 (HEC.out _ O4.out) (CY.out _ O4.out).2 (fun e => HB0.out (.inl e)) HBE.out).mono ?_
            rintro e wb ⟨rfl, hm5, hg5⟩
            rw [if_pos hz] at SX
            have ho5 := Out.of_grown (S := (· = w2.heap.size)) hg5 (fun j h => by cases h; rfl)
            have M5 := Lib.hid hm5
            have O5 := Lib.hid (O4.out.trans (ho5.mono (fun j h => .inl h)))
            have N5 := Lib.hid (N4.out.out ho5 (fun e => HBM.out.1 e.symm) (fun e => HBM.out.2.1 e.symm) (fun e => HBM.out.2.2 e.symm))
            clear hm5 hg5 ho5 hq hz
            go_wp2_with fail
            refine ⟨⟨n + 1, ⟨p + 1, upd f Dy q, rb⟩, by push_cast; rfl, rfl, by push_cast; rfl, ?_, NF.out, by rw [HQ.out]; exact words_set HWF.out Dy, by show p + 1 ≤ l.length; have := HLT.out; omega, HBL.out, M5.out, N5.out, O5.out⟩, by simpa [intOf] using MEAS.out⟩
            have := HRE.out.snoc (show (⟨p, f, rb⟩ : LS).p < l.length from HLT.out) (by rw [SX.out])
            rw [SX.out] at this
            exact this
          · refine (next_again w2.heap.size b0 off cp be eo p i Dy l.length E.length ec (some ⟨M, 0, none⟩) f q wa HQ (by simpa using hz) HLT.out il e60 EL.out M4.out HWF.out dy (CY.out _ O4.out).1 (HEC.out _ O4.out) (CY.out _ O4.out).2 (fun e => HB0.out (.inl e)) HBE.out).mono ?_
            rintro e wb ⟨rfl, hm5, hg5⟩
            rw [if_neg hz] at SX
            have ho5 := Out.of_grown (S := (· = w2.heap.size)) hg5 (fun j h => by cases h; rfl)
            have M5 := Lib.hid hm5
            have O5 := Lib.hid (O4.out.trans (ho5.mono (fun j h => .inl h)))
            have N5 := Lib.hid (N4.out.out ho5 (fun e => HBM.out.1 e.symm) (fun e => HBM.out.2.1 e.symm) (fun e => HBM.out.2.2 e.symm))
            clear hm5 hg5 ho5 hq hz
            go_wp2_with fail
            refine ⟨⟨n + 1, ⟨i + 1, upd f Dy q, rb⟩, by push_cast; rfl, rfl, by push_cast; rfl, ?_, NF.out, by rw [HQ.out]; exact words_set HWF.out Dy, by show i + 1 ≤ l.length; omega, HBL.out, M5.out, N5.out, O5.out⟩, by simpa [intOf] using MEAS.out⟩
            have := HRE.out.snoc (show (⟨p, f, rb⟩ : LS).p < l.length from HLT.out) (by rw [SX.out])
            rw [SX.out] at this
            exact this
        · have SX := Lib.hid (show stepL K l E ⟨p, f, rb⟩ = if (doR K x f rb).t ≠ 0 then ((doR K x f rb).t, ⟨p, f, rb⟩) else (0, ⟨p + 1, (doR K x f rb).f, (doR K x f rb).b⟩) by rw [stepL_at HX.out]; unfold stepX; rw [if_neg h24])
          have HX24 := Lib.hid (show (x.o == 24) = false by simpa using h24)
          have H24 := Lib.hid h24
          have WD := Lib.hid (words_doR (x := x) HWF.out HMM.out.fF HMM.out.fR)
          have TR := Lib.hid (trap_doR (K := K) (x := x) (f := f) (b := rb))
          have LD := Lib.hid (len_doR (K := K) (x := x) (f := f) (b := rb))
          clear h24
          go_wp2_with fail
          refine (dov_any w2.heap.size M F R K x f rb wr OK.out H24.out HM.out HMM.out (by rw [HBL.out]; exact hbk) HBM.out HWF.out).mono ?_
          rintro e wa ⟨rfl, hm4, hmm4, ho4⟩
          have M4 := Lib.hid hm4
          have N4 := Lib.hid hmm4
          have O4 := Lib.hid (HO.out.trans ho4)
          clear hm4 hmm4 ho4 c0 c1 c2 c3 c4
          generalize doR K x f rb = r at *
          obtain ⟨rt, rf, rb2⟩ := r
          simp only at SX WD LD TR M4 N4 ⊢
          by_cases ht : rt = 0
          · subst ht
            rw [if_neg (by simp)] at SX
            go_wp2_with fail
            refine (next_plain w2.heap.size b0 off cp p _ _ x wa HLT.out (by omega) HX24.out (l5_atV (l5_outV L3.out O4.out HB0.out) HX.out).1).mono ?_
            rintro e wb ⟨rfl, hbl5⟩
            have M5 := Lib.hid (M4.out.grown hbl5)
            have O5 := Lib.hid (O4.out.trans (Out.of_below _ hbl5))
            have N5 := Lib.hid (N4.out.out (Out.of_below (fun _ => False) hbl5) id id id)
            clear hbl5
            go_wp2_with fail
            refine ⟨⟨n + 1, ⟨p + 1, rf, rb2⟩, by push_cast; rfl, rfl, by push_cast; rfl, ?_, NF.out, WD.out, by show p + 1 ≤ l.length; have := HLT.out; omega, by show rb2.length = _; rw [LD.out, HBL.out], M5.out, N5.out, O5.out⟩, by simpa [intOf] using MEAS.out⟩
            have := HRE.out.snoc (show (⟨p, f, rb⟩ : LS).p < l.length from HLT.out) (by rw [SX.out])
            rw [SX.out] at this
            exact this
          · rw [if_pos ht] at SX
            have ht1 : (rt == 0) = false := by simpa using ht
            have ht2 : (rt != 0) = true := by simpa using ht
            have RR := Lib.hid (show runL K l E fuel.toNat ⟨0, fun _ => 0, b⟩ = ⟨n, rt, ⟨p, f, rb⟩⟩ by
              have := run_trap HRE.out (fuel.toNat - n - 1) (show (⟨p, f, rb⟩ : LS).p < l.length from HLT.out) (by rw [SX.out]; exact ht)
              rw [SX.out, show n + (fuel.toNat - n - 1 + 1) = fuel.toNat by have := NF.out; omega] at this
              exact this)
            obtain ⟨rfl, rfl⟩ : rf = f ∧ rb2 = rb := TR.out ht
            have HM := M4
            have HMM := N4
            have HO := O4
            obtain ⟨i0, hi0, hz0, hz1, hz2⟩ := info_parts info_u32V
            have NEWS := Lib.hid (show ∀ j u, (cellsF rf)[j]? = some u → wa.cell? ((⟨w2.heap.size, 0, none⟩ : Addr).add j) = some u from fun j u hj => by
              obtain ⟨hjl, _⟩ := List.getElem?_eq_some_iff.1 hj
              rw [cellsF_len] at hjl
              rw [cellsF_at _ hjl] at hj
              cases hj
              have := HM.out.v j hjl
              rw [add_at, Nat.zero_add]; exact this)
            have ONEC := Lib.hid (show ∀ u ∈ cellsF rf, u.oneCell' = true from fun u hu => by
              unfold cellsF at hu
              obtain ⟨k, _, rfl⟩ := List.mem_map.1 hu
              rfl)
            have OW := Lib.hid (show Out (fun j => j = R ∨ w.heap.size ≤ j) w wa from (Out.of_below _ (BB.out.trans (BW3.out.mono BB.out.size))).trans (HO.out.mono (fun j h => by rcases h with h | h; exact .inr (by have := BB.out.size; omega); exact .inl h)))
            have BAS := Lib.hid OW.out.size
            go_wp2_with (at_builtin; refine wpList_append_own _ rfl (.const (.slice none 0 0)) (.tmp 52) 31 rfl w.heap.size 50 i0 (.int .u32 0) 1 4 Try.underlying31 hi0 hz0 hz1 hz2 rfl (by decide) (.slice none 0 0) 0 [] rfl (World.ownsRow_nil _ _ _ _) ⟨w2.heap.size, 0, none⟩ 64 64 (cellsF rf) rfl (by rw [cellsF_len]) NEWS.out ONEC.out (by decide) (by decide) BAS.out ?_; intro v7 w7 hown hgrow hn7)
            have hg7 : Below wa.heap.size wa w7 := ⟨hgrow.os, hgrow.tape, hgrow.output, hgrow.size, fun i hi => hgrow.block i hi (by simp [Value.ownBlock])⟩
            have HG7 := Lib.hid hg7
            have HOWN := Lib.hid hown
            clear hg7 hown hgrow hn7
            (try simp only [Exit.inBlock, Exit.then])
            refine bodyPost_ret (res_fourV rfl _ _ _) rfl ?_
            exact run_post RR.out rfl (by simpa using HOWN.out) (HMM.out.out (Out.of_below (fun _ => False) HG7.out) id id id) HBL.out ((OW.out.trans (Out.of_below _ HG7.out)))
      · have t2 : decide ((n : Int) < fuel) = false := by simp; omega
        have RR := Lib.hid (show runL K l E fuel.toNat ⟨0, fun _ => 0, b⟩ = ⟨n, 0, ⟨p, f, rb⟩⟩ by
          have := run_end HRE.out 0 (.inr rfl)
          rwa [show n + 0 = fuel.toNat by omega] at this)
        clear hnf hfu
        obtain ⟨i0, hi0, hz0, hz1, hz2⟩ := info_parts info_u32V
        have NEWS := Lib.hid (show ∀ j u, (cellsF f)[j]? = some u → wr.cell? ((⟨w2.heap.size, 0, none⟩ : Addr).add j) = some u from fun j u hj => by
          obtain ⟨hjl, _⟩ := List.getElem?_eq_some_iff.1 hj
          rw [cellsF_len] at hjl
          rw [cellsF_at _ hjl] at hj
          cases hj
          have := HM.out.v j hjl
          rw [add_at, Nat.zero_add]; exact this)
        have ONEC := Lib.hid (show ∀ u ∈ cellsF f, u.oneCell' = true from fun u hu => by
          unfold cellsF at hu
          obtain ⟨k, _, rfl⟩ := List.mem_map.1 hu
          rfl)
        have OW := Lib.hid (show Out (fun j => j = R ∨ w.heap.size ≤ j) w wr from (Out.of_below _ (BB.out.trans (BW3.out.mono BB.out.size))).trans (HO.out.mono (fun j h => by rcases h with h | h; exact .inr (by have := BB.out.size; omega); exact .inl h)))
        have BAS := Lib.hid OW.out.size
        go_wp2_with (at_builtin; refine wpList_append_own _ rfl (.const (.slice none 0 0)) (.tmp 52) 31 rfl w.heap.size 50 i0 (.int .u32 0) 1 4 Try.underlying31 hi0 hz0 hz1 hz2 rfl (by decide) (.slice none 0 0) 0 [] rfl (World.ownsRow_nil _ _ _ _) ⟨w2.heap.size, 0, none⟩ 64 64 (cellsF f) rfl (by rw [cellsF_len]) NEWS.out ONEC.out (by decide) (by decide) BAS.out ?_; intro v7 w7 hown hgrow hn7)
        have hg7 : Below wr.heap.size wr w7 := ⟨hgrow.os, hgrow.tape, hgrow.output, hgrow.size, fun i hi => hgrow.block i hi (by simp [Value.ownBlock])⟩
        have HG7 := Lib.hid hg7
        have HOWN := Lib.hid hown
        clear hg7 hown hgrow hn7
        (try simp only [Exit.inBlock, Exit.then])
        refine bodyPost_ret (res_fourV rfl _ _ _) rfl ?_
        exact run_post RR.out rfl (by simpa using HOWN.out) (HMM.out.out (Out.of_below (fun _ => False) HG7.out) id id id) HBL.out ((OW.out.trans (Out.of_below _ HG7.out)))
    · obtain rfl : p = l.length := by omega
      have t1 : decide ((l.length : Int) < (l.length : Int)) = false := by simp
      have RR := Lib.hid (show runL K l E fuel.toNat ⟨0, fun _ => 0, b⟩ = ⟨n, 0, ⟨l.length, f, rb⟩⟩ by
        have := run_end HRE.out (fuel.toNat - n) (.inl (Nat.le_refl _))
        rwa [show n + (fuel.toNat - n) = fuel.toNat by omega] at this)
      clear hlt hfu
      obtain ⟨i0, hi0, hz0, hz1, hz2⟩ := info_parts info_u32V
      have NEWS := Lib.hid (show ∀ j u, (cellsF f)[j]? = some u → wr.cell? ((⟨w2.heap.size, 0, none⟩ : Addr).add j) = some u from fun j u hj => by
        obtain ⟨hjl, _⟩ := List.getElem?_eq_some_iff.1 hj
        rw [cellsF_len] at hjl
        rw [cellsF_at _ hjl] at hj
        cases hj
        have := HM.out.v j hjl
        rw [add_at, Nat.zero_add]; exact this)
      have ONEC := Lib.hid (show ∀ u ∈ cellsF f, u.oneCell' = true from fun u hu => by
        unfold cellsF at hu
        obtain ⟨k, _, rfl⟩ := List.mem_map.1 hu
        rfl)
      have OW := Lib.hid (show Out (fun j => j = R ∨ w.heap.size ≤ j) w wr from (Out.of_below _ (BB.out.trans (BW3.out.mono BB.out.size))).trans (HO.out.mono (fun j h => by rcases h with h | h; exact .inr (by have := BB.out.size; omega); exact .inl h)))
      have BAS := Lib.hid OW.out.size
      go_wp2_with (at_builtin; refine wpList_append_own _ rfl (.const (.slice none 0 0)) (.tmp 52) 31 rfl w.heap.size 50 i0 (.int .u32 0) 1 4 Try.underlying31 hi0 hz0 hz1 hz2 rfl (by decide) (.slice none 0 0) 0 [] rfl (World.ownsRow_nil _ _ _ _) ⟨w2.heap.size, 0, none⟩ 64 64 (cellsF f) rfl (by rw [cellsF_len]) NEWS.out ONEC.out (by decide) (by decide) BAS.out ?_; intro v7 w7 hown hgrow hn7)
      have hg7 : Below wr.heap.size wr w7 := ⟨hgrow.os, hgrow.tape, hgrow.output, hgrow.size, fun i hi => hgrow.block i hi (by simp [Value.ownBlock])⟩
      have HG7 := Lib.hid hg7
      have HOWN := Lib.hid hown
      clear hg7 hown hgrow hn7
      (try simp only [Exit.inBlock, Exit.then])
      refine bodyPost_ret (res_fourV rfl _ _ _) rfl ?_
      exact run_post RR.out rfl (by simpa using HOWN.out) (HMM.out.out (Out.of_below (fun _ => False) HG7.out) id id id) HBL.out ((OW.out.trans (Out.of_below _ HG7.out)))
end Go.Proofs.Ytlieapapmkbbgaa
