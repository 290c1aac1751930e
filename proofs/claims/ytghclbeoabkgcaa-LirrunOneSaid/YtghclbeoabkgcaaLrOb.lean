/- Contract of one step of the document's machine for loop programs: more operations. -/
import Derived.Test.YtghclbeoabkgcaaLrOa
namespace Go.Proofs.Ytghclbeoabkgcaa
open Go Go.RowKit Pl
set_option linter.unusedVariables false

set_option maxRecDepth 100000 in
set_option maxHeartbeats 4000000 in
theorem one_5 (B D A E : Nat) (mp : Option Addr) (F : Int) (imm : Int) (f : Nat → Int) (s : Int) (w : World) (hD : D < 64) (hA : A < 64) (hE : E < 64) (hs : 0 ≤ s ∧ s ≤ 1000) (hm : MachR B mp F f s w) (hf : WordsF f) :
    Calls Try.prog 53 #[.pointer (some ⟨B, 0, none⟩), .agg #[.int .i64 5, .int .i64 D, .int .i64 A, .int .i64 E, .int .i32 imm]] w fun e w' => e = .returned (.tuple #[]) ∧ MachR B mp F (upd f D (aluS 11 (f A) (f E))) (s + 1) w' ∧ w.grownBy w' (some B) := by
  have cA := hm.v A hA
  have cE := hm.v E hE
  have cD := hm.v D hD
  have cs := hm.st
  have ct := hm.tr
  have zD := hm.fz (1 + D) (by omega)
  have zs := hm.fz 65 (by omega)
  have lt := hm.lt
  have gA : (A : Int) < 64 := by omega
  have gE : (E : Int) < 64 := by omega
  have gD : (D : Int) < 64 := by omega
  have pA : (0 : Int) ≤ (A : Int) := by omega
  have pE : (0 : Int) ≤ (E : Int) := by omega
  have pD : (0 : Int) ≤ (D : Int) := by omega
  have us := IntWalk.i64_in (s + 1) (by omega)
  have fA := hf A
  have fE := hf E
  have AL := Lib.hid (fun w => alu_any 11 (f A) (f E) w (by omega) (by omega) (by omega) (by omega) (by omega) (by omega))
  have HM := Lib.hid hm
  have HF := Lib.hid hf
  have HFA := Lib.hid fA
  have HFE := Lib.hid fE
  clear hm hf fA fE
  go_enter Try.func53, Try.ntmps53
  go_wp2_with fail
  go_region
  go_wp2_with fail
  obtain ⟨W, hW⟩ : ∃ W : World, ((w.alloc (.cells #[.int .i64 5, .int .i64 D, .int .i64 A, .int .i64 E, .int .i32 imm] 29)).alloc (.cells #[.int .i64 0, .int .i64 0, .int .i64 0, .int .i64 1, .int .i64 2, .int .i64 11, .int .i64 12, .int .i64 10, .int .i64 9, .int .i64 6, .int .i64 4, .int .i64 5, .int .i64 16, .int .i64 1, .int .i64 3, .int .i64 7, .int .i64 8] 3)).drew = W := ⟨_, rfl⟩
  have hb0 : Below w.heap.size w W := by subst hW; go_grown
  have hS : W.cell? ⟨w.heap.size, 0, none⟩ = some (.int .i64 5) ∧ W.cell? ⟨w.heap.size, 1, none⟩ = some (.int .i64 (D : Int)) ∧ W.cell? ⟨w.heap.size, 2, none⟩ = some (.int .i64 (A : Int)) ∧ W.cell? ⟨w.heap.size, 3, none⟩ = some (.int .i64 (E : Int)) ∧ W.cell? ⟨w.heap.size, 4, none⟩ = some (.int .i32 imm) ∧ W.cell? ⟨w.heap.size + 1, 5, none⟩ = some (.int .i64 11) ∧ W.cell? ⟨B, 1 + A, none⟩ = some (.int .u32 (f A)) ∧ B < W.heap.size ∧ w.heap.size < W.heap.size ∧ w.heap.size + 1 < W.heap.size ∧ Below w.heap.size w W := by
    refine ⟨by subst hW; simp, by subst hW; simp, by subst hW; simp, by subst hW; simp, by subst hW; simp, by subst hW; simp, (hb0.cell (by exact lt)).trans cA, Nat.lt_of_lt_of_le lt hb0.size, by subst hW; simp; omega, by subst hW; simp, hb0⟩
  rw [hW]
  clear hW hb0
  go_region_held3 (fun w' => w'.cell? ⟨w.heap.size, 0, none⟩ = some (.int .i64 5) ∧ w'.cell? ⟨w.heap.size, 1, none⟩ = some (.int .i64 (D : Int)) ∧ w'.cell? ⟨w.heap.size, 2, none⟩ = some (.int .i64 (A : Int)) ∧ w'.cell? ⟨w.heap.size, 3, none⟩ = some (.int .i64 (E : Int)) ∧ w'.cell? ⟨w.heap.size, 4, none⟩ = some (.int .i32 imm) ∧ w'.cell? ⟨w.heap.size + 1, 5, none⟩ = some (.int .i64 11) ∧ w'.cell? ⟨B, 1 + A, none⟩ = some (.int .u32 (f A)) ∧ B < w'.heap.size ∧ w.heap.size < w'.heap.size ∧ w.heap.size + 1 < w'.heap.size ∧ Below w.heap.size w w')
    (first | (with_reducible assumption) | (obtain ⟨v0, v1, v2, v3, v4, v5, v6, v7, v8, v9, v10⟩ := ‹_ ∧ _ ∧ _ ∧ _ ∧ _ ∧ _ ∧ _ ∧ _ ∧ _ ∧ _ ∧ Below w.heap.size w _›; exact ⟨(hbl.cell (by show w.heap.size < _; omega)).trans v0, (hbl.cell (by show w.heap.size < _; omega)).trans v1, (hbl.cell (by show w.heap.size < _; omega)).trans v2, (hbl.cell (by show w.heap.size < _; omega)).trans v3, (hbl.cell (by show w.heap.size < _; omega)).trans v4, (hbl.cell (by show w.heap.size + 1 < _; omega)).trans v5, (hbl.cell (by show B < _; omega)).trans v6, Nat.lt_of_lt_of_le v7 hbl.size, Nat.lt_of_lt_of_le v8 hbl.size, Nat.lt_of_lt_of_le v9 hbl.size, Below.trans v10 (hbl.mono v10.size)⟩) | (obtain ⟨v0, v1, v2, v3, v4, v5, v6, v7, v8, v9, v10⟩ := ‹_ ∧ _ ∧ _ ∧ _ ∧ _ ∧ _ ∧ _ ∧ _ ∧ _ ∧ _ ∧ Below w.heap.size w _›; exact ⟨v0, v1, v2, v3, v4, v5, v6, v7, v8, v9, v10.drew⟩) | (obtain ⟨v0, v1, v2, v3, v4, v5, v6, v7, v8, v9, v10⟩ := ‹_ ∧ _ ∧ _ ∧ _ ∧ _ ∧ _ ∧ _ ∧ _ ∧ _ ∧ _ ∧ Below w.heap.size w _›; exact ⟨v0, v1, v2, v3, v4, v5, v6, v7, v8, v9, v10⟩))
    (first | (go_at_call 81; refine (AL.out _).mono ?_; rintro e w9 ⟨rfl, hbl⟩))
  obtain ⟨v0, v1, v2, v3, v4, v5, v6, v7, v8, v9, v10⟩ := ‹_ ∧ _ ∧ _ ∧ _ ∧ _ ∧ _ ∧ _ ∧ _ ∧ _ ∧ _ ∧ Below w.heap.size w _›
  have MM := HM.out.grown v10
  have cD := MM.v D hD
  have cs := MM.st
  have ct := MM.tr
  have zD := MM.fz (1 + D) (by omega)
  have zs := MM.fz 65 (by omega)
  have HMM := Lib.hid MM
  clear MM hS
  go_wp2_with fail
  go_region
  have M2 := Lib.hid (machR_set (x := aluS 11 (f A) (f E)) HMM.out hD).drew
  have G2 := Lib.hid (grown_drew (grown_set (k := 1 + D) (x := .int .u32 (aluS 11 (f A) (f E))) (grown_below (r := some B) v10)))
  clear cA cE cD cs ct zD zs lt HMM
  generalize World.drew (World.setCell _ _ _) = W2 at *
  have ct := M2.out.tr
  have cs := M2.out.st
  have zs := M2.out.fz 65 (by omega)
  clear v0 v1 v2 v3 v4 v5 v6 v7 v8 v9 v10
  go_wp2_with fail
  exact Go.Great.bodyPost_end0 (by rfl) (by rfl) ⟨rfl, machR_step M2.out, grown_set G2.out⟩

set_option maxRecDepth 100000 in
set_option maxHeartbeats 4000000 in
theorem one_6 (B D A E : Nat) (mp : Option Addr) (F : Int) (imm : Int) (f : Nat → Int) (s : Int) (w : World) (hD : D < 64) (hA : A < 64) (hE : E < 64) (hs : 0 ≤ s ∧ s ≤ 1000) (hm : MachR B mp F f s w) (hf : WordsF f) :
    Calls Try.prog 53 #[.pointer (some ⟨B, 0, none⟩), .agg #[.int .i64 6, .int .i64 D, .int .i64 A, .int .i64 E, .int .i32 imm]] w fun e w' => e = .returned (.tuple #[]) ∧ MachR B mp F (upd f D (aluS 12 (f A) (f E))) (s + 1) w' ∧ w.grownBy w' (some B) := by
  have cA := hm.v A hA
  have cE := hm.v E hE
  have cD := hm.v D hD
  have cs := hm.st
  have ct := hm.tr
  have zD := hm.fz (1 + D) (by omega)
  have zs := hm.fz 65 (by omega)
  have lt := hm.lt
  have gA : (A : Int) < 64 := by omega
  have gE : (E : Int) < 64 := by omega
  have gD : (D : Int) < 64 := by omega
  have pA : (0 : Int) ≤ (A : Int) := by omega
  have pE : (0 : Int) ≤ (E : Int) := by omega
  have pD : (0 : Int) ≤ (D : Int) := by omega
  have us := IntWalk.i64_in (s + 1) (by omega)
  have fA := hf A
  have fE := hf E
  have AL := Lib.hid (fun w => alu_any 12 (f A) (f E) w (by omega) (by omega) (by omega) (by omega) (by omega) (by omega))
  have HM := Lib.hid hm
  have HF := Lib.hid hf
  have HFA := Lib.hid fA
  have HFE := Lib.hid fE
  clear hm hf fA fE
  go_enter Try.func53, Try.ntmps53
  go_wp2_with fail
  go_region
  go_wp2_with fail
  obtain ⟨W, hW⟩ : ∃ W : World, ((w.alloc (.cells #[.int .i64 6, .int .i64 D, .int .i64 A, .int .i64 E, .int .i32 imm] 29)).alloc (.cells #[.int .i64 0, .int .i64 0, .int .i64 0, .int .i64 1, .int .i64 2, .int .i64 11, .int .i64 12, .int .i64 10, .int .i64 9, .int .i64 6, .int .i64 4, .int .i64 5, .int .i64 16, .int .i64 1, .int .i64 3, .int .i64 7, .int .i64 8] 3)).drew = W := ⟨_, rfl⟩
  have hb0 : Below w.heap.size w W := by subst hW; go_grown
  have hS : W.cell? ⟨w.heap.size, 0, none⟩ = some (.int .i64 6) ∧ W.cell? ⟨w.heap.size, 1, none⟩ = some (.int .i64 (D : Int)) ∧ W.cell? ⟨w.heap.size, 2, none⟩ = some (.int .i64 (A : Int)) ∧ W.cell? ⟨w.heap.size, 3, none⟩ = some (.int .i64 (E : Int)) ∧ W.cell? ⟨w.heap.size, 4, none⟩ = some (.int .i32 imm) ∧ W.cell? ⟨w.heap.size + 1, 6, none⟩ = some (.int .i64 12) ∧ W.cell? ⟨B, 1 + A, none⟩ = some (.int .u32 (f A)) ∧ B < W.heap.size ∧ w.heap.size < W.heap.size ∧ w.heap.size + 1 < W.heap.size ∧ Below w.heap.size w W := by
    refine ⟨by subst hW; simp, by subst hW; simp, by subst hW; simp, by subst hW; simp, by subst hW; simp, by subst hW; simp, (hb0.cell (by exact lt)).trans cA, Nat.lt_of_lt_of_le lt hb0.size, by subst hW; simp; omega, by subst hW; simp, hb0⟩
  rw [hW]
  clear hW hb0
  go_region_held3 (fun w' => w'.cell? ⟨w.heap.size, 0, none⟩ = some (.int .i64 6) ∧ w'.cell? ⟨w.heap.size, 1, none⟩ = some (.int .i64 (D : Int)) ∧ w'.cell? ⟨w.heap.size, 2, none⟩ = some (.int .i64 (A : Int)) ∧ w'.cell? ⟨w.heap.size, 3, none⟩ = some (.int .i64 (E : Int)) ∧ w'.cell? ⟨w.heap.size, 4, none⟩ = some (.int .i32 imm) ∧ w'.cell? ⟨w.heap.size + 1, 6, none⟩ = some (.int .i64 12) ∧ w'.cell? ⟨B, 1 + A, none⟩ = some (.int .u32 (f A)) ∧ B < w'.heap.size ∧ w.heap.size < w'.heap.size ∧ w.heap.size + 1 < w'.heap.size ∧ Below w.heap.size w w')
    (first | (with_reducible assumption) | (obtain ⟨v0, v1, v2, v3, v4, v5, v6, v7, v8, v9, v10⟩ := ‹_ ∧ _ ∧ _ ∧ _ ∧ _ ∧ _ ∧ _ ∧ _ ∧ _ ∧ _ ∧ Below w.heap.size w _›; exact ⟨(hbl.cell (by show w.heap.size < _; omega)).trans v0, (hbl.cell (by show w.heap.size < _; omega)).trans v1, (hbl.cell (by show w.heap.size < _; omega)).trans v2, (hbl.cell (by show w.heap.size < _; omega)).trans v3, (hbl.cell (by show w.heap.size < _; omega)).trans v4, (hbl.cell (by show w.heap.size + 1 < _; omega)).trans v5, (hbl.cell (by show B < _; omega)).trans v6, Nat.lt_of_lt_of_le v7 hbl.size, Nat.lt_of_lt_of_le v8 hbl.size, Nat.lt_of_lt_of_le v9 hbl.size, Below.trans v10 (hbl.mono v10.size)⟩) | (obtain ⟨v0, v1, v2, v3, v4, v5, v6, v7, v8, v9, v10⟩ := ‹_ ∧ _ ∧ _ ∧ _ ∧ _ ∧ _ ∧ _ ∧ _ ∧ _ ∧ _ ∧ Below w.heap.size w _›; exact ⟨v0, v1, v2, v3, v4, v5, v6, v7, v8, v9, v10.drew⟩) | (obtain ⟨v0, v1, v2, v3, v4, v5, v6, v7, v8, v9, v10⟩ := ‹_ ∧ _ ∧ _ ∧ _ ∧ _ ∧ _ ∧ _ ∧ _ ∧ _ ∧ _ ∧ Below w.heap.size w _›; exact ⟨v0, v1, v2, v3, v4, v5, v6, v7, v8, v9, v10⟩))
    (first | (go_at_call 81; refine (AL.out _).mono ?_; rintro e w9 ⟨rfl, hbl⟩))
  obtain ⟨v0, v1, v2, v3, v4, v5, v6, v7, v8, v9, v10⟩ := ‹_ ∧ _ ∧ _ ∧ _ ∧ _ ∧ _ ∧ _ ∧ _ ∧ _ ∧ _ ∧ Below w.heap.size w _›
  have MM := HM.out.grown v10
  have cD := MM.v D hD
  have cs := MM.st
  have ct := MM.tr
  have zD := MM.fz (1 + D) (by omega)
  have zs := MM.fz 65 (by omega)
  have HMM := Lib.hid MM
  clear MM hS
  go_wp2_with fail
  go_region
  have M2 := Lib.hid (machR_set (x := aluS 12 (f A) (f E)) HMM.out hD).drew
  have G2 := Lib.hid (grown_drew (grown_set (k := 1 + D) (x := .int .u32 (aluS 12 (f A) (f E))) (grown_below (r := some B) v10)))
  clear cA cE cD cs ct zD zs lt HMM
  generalize World.drew (World.setCell _ _ _) = W2 at *
  have ct := M2.out.tr
  have cs := M2.out.st
  have zs := M2.out.fz 65 (by omega)
  clear v0 v1 v2 v3 v4 v5 v6 v7 v8 v9 v10
  go_wp2_with fail
  exact Go.Great.bodyPost_end0 (by rfl) (by rfl) ⟨rfl, machR_step M2.out, grown_set G2.out⟩

set_option maxRecDepth 100000 in
set_option maxHeartbeats 4000000 in
theorem one_7 (B D A E : Nat) (mp : Option Addr) (F : Int) (imm : Int) (f : Nat → Int) (s : Int) (w : World) (hD : D < 64) (hA : A < 64) (hE : E < 64) (hs : 0 ≤ s ∧ s ≤ 1000) (hm : MachR B mp F f s w) (hf : WordsF f) :
    Calls Try.prog 53 #[.pointer (some ⟨B, 0, none⟩), .agg #[.int .i64 7, .int .i64 D, .int .i64 A, .int .i64 E, .int .i32 imm]] w fun e w' => e = .returned (.tuple #[]) ∧ MachR B mp F (upd f D (aluS 10 (f A) (f E))) (s + 1) w' ∧ w.grownBy w' (some B) := by
  have cA := hm.v A hA
  have cE := hm.v E hE
  have cD := hm.v D hD
  have cs := hm.st
  have ct := hm.tr
  have zD := hm.fz (1 + D) (by omega)
  have zs := hm.fz 65 (by omega)
  have lt := hm.lt
  have gA : (A : Int) < 64 := by omega
  have gE : (E : Int) < 64 := by omega
  have gD : (D : Int) < 64 := by omega
  have pA : (0 : Int) ≤ (A : Int) := by omega
  have pE : (0 : Int) ≤ (E : Int) := by omega
  have pD : (0 : Int) ≤ (D : Int) := by omega
  have us := IntWalk.i64_in (s + 1) (by omega)
  have fA := hf A
  have fE := hf E
  have AL := Lib.hid (fun w => alu_any 10 (f A) (f E) w (by omega) (by omega) (by omega) (by omega) (by omega) (by omega))
  have HM := Lib.hid hm
  have HF := Lib.hid hf
  have HFA := Lib.hid fA
  have HFE := Lib.hid fE
  clear hm hf fA fE
  go_enter Try.func53, Try.ntmps53
  go_wp2_with fail
  go_region
  go_wp2_with fail
  obtain ⟨W, hW⟩ : ∃ W : World, ((w.alloc (.cells #[.int .i64 7, .int .i64 D, .int .i64 A, .int .i64 E, .int .i32 imm] 29)).alloc (.cells #[.int .i64 0, .int .i64 0, .int .i64 0, .int .i64 1, .int .i64 2, .int .i64 11, .int .i64 12, .int .i64 10, .int .i64 9, .int .i64 6, .int .i64 4, .int .i64 5, .int .i64 16, .int .i64 1, .int .i64 3, .int .i64 7, .int .i64 8] 3)).drew = W := ⟨_, rfl⟩
  have hb0 : Below w.heap.size w W := by subst hW; go_grown
  have hS : W.cell? ⟨w.heap.size, 0, none⟩ = some (.int .i64 7) ∧ W.cell? ⟨w.heap.size, 1, none⟩ = some (.int .i64 (D : Int)) ∧ W.cell? ⟨w.heap.size, 2, none⟩ = some (.int .i64 (A : Int)) ∧ W.cell? ⟨w.heap.size, 3, none⟩ = some (.int .i64 (E : Int)) ∧ W.cell? ⟨w.heap.size, 4, none⟩ = some (.int .i32 imm) ∧ W.cell? ⟨w.heap.size + 1, 7, none⟩ = some (.int .i64 10) ∧ W.cell? ⟨B, 1 + A, none⟩ = some (.int .u32 (f A)) ∧ B < W.heap.size ∧ w.heap.size < W.heap.size ∧ w.heap.size + 1 < W.heap.size ∧ Below w.heap.size w W := by
    refine ⟨by subst hW; simp, by subst hW; simp, by subst hW; simp, by subst hW; simp, by subst hW; simp, by subst hW; simp, (hb0.cell (by exact lt)).trans cA, Nat.lt_of_lt_of_le lt hb0.size, by subst hW; simp; omega, by subst hW; simp, hb0⟩
  rw [hW]
  clear hW hb0
  go_region_held3 (fun w' => w'.cell? ⟨w.heap.size, 0, none⟩ = some (.int .i64 7) ∧ w'.cell? ⟨w.heap.size, 1, none⟩ = some (.int .i64 (D : Int)) ∧ w'.cell? ⟨w.heap.size, 2, none⟩ = some (.int .i64 (A : Int)) ∧ w'.cell? ⟨w.heap.size, 3, none⟩ = some (.int .i64 (E : Int)) ∧ w'.cell? ⟨w.heap.size, 4, none⟩ = some (.int .i32 imm) ∧ w'.cell? ⟨w.heap.size + 1, 7, none⟩ = some (.int .i64 10) ∧ w'.cell? ⟨B, 1 + A, none⟩ = some (.int .u32 (f A)) ∧ B < w'.heap.size ∧ w.heap.size < w'.heap.size ∧ w.heap.size + 1 < w'.heap.size ∧ Below w.heap.size w w')
    (first | (with_reducible assumption) | (obtain ⟨v0, v1, v2, v3, v4, v5, v6, v7, v8, v9, v10⟩ := ‹_ ∧ _ ∧ _ ∧ _ ∧ _ ∧ _ ∧ _ ∧ _ ∧ _ ∧ _ ∧ Below w.heap.size w _›; exact ⟨(hbl.cell (by show w.heap.size < _; omega)).trans v0, (hbl.cell (by show w.heap.size < _; omega)).trans v1, (hbl.cell (by show w.heap.size < _; omega)).trans v2, (hbl.cell (by show w.heap.size < _; omega)).trans v3, (hbl.cell (by show w.heap.size < _; omega)).trans v4, (hbl.cell (by show w.heap.size + 1 < _; omega)).trans v5, (hbl.cell (by show B < _; omega)).trans v6, Nat.lt_of_lt_of_le v7 hbl.size, Nat.lt_of_lt_of_le v8 hbl.size, Nat.lt_of_lt_of_le v9 hbl.size, Below.trans v10 (hbl.mono v10.size)⟩) | (obtain ⟨v0, v1, v2, v3, v4, v5, v6, v7, v8, v9, v10⟩ := ‹_ ∧ _ ∧ _ ∧ _ ∧ _ ∧ _ ∧ _ ∧ _ ∧ _ ∧ _ ∧ Below w.heap.size w _›; exact ⟨v0, v1, v2, v3, v4, v5, v6, v7, v8, v9, v10.drew⟩) | (obtain ⟨v0, v1, v2, v3, v4, v5, v6, v7, v8, v9, v10⟩ := ‹_ ∧ _ ∧ _ ∧ _ ∧ _ ∧ _ ∧ _ ∧ _ ∧ _ ∧ _ ∧ Below w.heap.size w _›; exact ⟨v0, v1, v2, v3, v4, v5, v6, v7, v8, v9, v10⟩))
    (first | (go_at_call 81; refine (AL.out _).mono ?_; rintro e w9 ⟨rfl, hbl⟩))
  obtain ⟨v0, v1, v2, v3, v4, v5, v6, v7, v8, v9, v10⟩ := ‹_ ∧ _ ∧ _ ∧ _ ∧ _ ∧ _ ∧ _ ∧ _ ∧ _ ∧ _ ∧ Below w.heap.size w _›
  have MM := HM.out.grown v10
  have cD := MM.v D hD
  have cs := MM.st
  have ct := MM.tr
  have zD := MM.fz (1 + D) (by omega)
  have zs := MM.fz 65 (by omega)
  have HMM := Lib.hid MM
  clear MM hS
  go_wp2_with fail
  go_region
  have M2 := Lib.hid (machR_set (x := aluS 10 (f A) (f E)) HMM.out hD).drew
  have G2 := Lib.hid (grown_drew (grown_set (k := 1 + D) (x := .int .u32 (aluS 10 (f A) (f E))) (grown_below (r := some B) v10)))
  clear cA cE cD cs ct zD zs lt HMM
  generalize World.drew (World.setCell _ _ _) = W2 at *
  have ct := M2.out.tr
  have cs := M2.out.st
  have zs := M2.out.fz 65 (by omega)
  clear v0 v1 v2 v3 v4 v5 v6 v7 v8 v9 v10
  go_wp2_with fail
  exact Go.Great.bodyPost_end0 (by rfl) (by rfl) ⟨rfl, machR_step M2.out, grown_set G2.out⟩

set_option maxRecDepth 100000 in
set_option maxHeartbeats 4000000 in
theorem one_8 (B D A E : Nat) (mp : Option Addr) (F : Int) (imm : Int) (f : Nat → Int) (s : Int) (w : World) (hD : D < 64) (hA : A < 64) (hE : E < 64) (hs : 0 ≤ s ∧ s ≤ 1000) (hm : MachR B mp F f s w) (hf : WordsF f) :
    Calls Try.prog 53 #[.pointer (some ⟨B, 0, none⟩), .agg #[.int .i64 8, .int .i64 D, .int .i64 A, .int .i64 E, .int .i32 imm]] w fun e w' => e = .returned (.tuple #[]) ∧ MachR B mp F (upd f D (aluS 9 (f A) (f E))) (s + 1) w' ∧ w.grownBy w' (some B) := by
  have cA := hm.v A hA
  have cE := hm.v E hE
  have cD := hm.v D hD
  have cs := hm.st
  have ct := hm.tr
  have zD := hm.fz (1 + D) (by omega)
  have zs := hm.fz 65 (by omega)
  have lt := hm.lt
  have gA : (A : Int) < 64 := by omega
  have gE : (E : Int) < 64 := by omega
  have gD : (D : Int) < 64 := by omega
  have pA : (0 : Int) ≤ (A : Int) := by omega
  have pE : (0 : Int) ≤ (E : Int) := by omega
  have pD : (0 : Int) ≤ (D : Int) := by omega
  have us := IntWalk.i64_in (s + 1) (by omega)
  have fA := hf A
  have fE := hf E
  have AL := Lib.hid (fun w => alu_any 9 (f A) (f E) w (by omega) (by omega) (by omega) (by omega) (by omega) (by omega))
  have HM := Lib.hid hm
  have HF := Lib.hid hf
  have HFA := Lib.hid fA
  have HFE := Lib.hid fE
  clear hm hf fA fE
  go_enter Try.func53, Try.ntmps53
  go_wp2_with fail
  go_region
  go_wp2_with fail
  obtain ⟨W, hW⟩ : ∃ W : World, ((w.alloc (.cells #[.int .i64 8, .int .i64 D, .int .i64 A, .int .i64 E, .int .i32 imm] 29)).alloc (.cells #[.int .i64 0, .int .i64 0, .int .i64 0, .int .i64 1, .int .i64 2, .int .i64 11, .int .i64 12, .int .i64 10, .int .i64 9, .int .i64 6, .int .i64 4, .int .i64 5, .int .i64 16, .int .i64 1, .int .i64 3, .int .i64 7, .int .i64 8] 3)).drew = W := ⟨_, rfl⟩
  have hb0 : Below w.heap.size w W := by subst hW; go_grown
  have hS : W.cell? ⟨w.heap.size, 0, none⟩ = some (.int .i64 8) ∧ W.cell? ⟨w.heap.size, 1, none⟩ = some (.int .i64 (D : Int)) ∧ W.cell? ⟨w.heap.size, 2, none⟩ = some (.int .i64 (A : Int)) ∧ W.cell? ⟨w.heap.size, 3, none⟩ = some (.int .i64 (E : Int)) ∧ W.cell? ⟨w.heap.size, 4, none⟩ = some (.int .i32 imm) ∧ W.cell? ⟨w.heap.size + 1, 8, none⟩ = some (.int .i64 9) ∧ W.cell? ⟨B, 1 + A, none⟩ = some (.int .u32 (f A)) ∧ B < W.heap.size ∧ w.heap.size < W.heap.size ∧ w.heap.size + 1 < W.heap.size ∧ Below w.heap.size w W := by
    refine ⟨by subst hW; simp, by subst hW; simp, by subst hW; simp, by subst hW; simp, by subst hW; simp, by subst hW; simp, (hb0.cell (by exact lt)).trans cA, Nat.lt_of_lt_of_le lt hb0.size, by subst hW; simp; omega, by subst hW; simp, hb0⟩
  rw [hW]
  clear hW hb0
  go_region_held3 (fun w' => w'.cell? ⟨w.heap.size, 0, none⟩ = some (.int .i64 8) ∧ w'.cell? ⟨w.heap.size, 1, none⟩ = some (.int .i64 (D : Int)) ∧ w'.cell? ⟨w.heap.size, 2, none⟩ = some (.int .i64 (A : Int)) ∧ w'.cell? ⟨w.heap.size, 3, none⟩ = some (.int .i64 (E : Int)) ∧ w'.cell? ⟨w.heap.size, 4, none⟩ = some (.int .i32 imm) ∧ w'.cell? ⟨w.heap.size + 1, 8, none⟩ = some (.int .i64 9) ∧ w'.cell? ⟨B, 1 + A, none⟩ = some (.int .u32 (f A)) ∧ B < w'.heap.size ∧ w.heap.size < w'.heap.size ∧ w.heap.size + 1 < w'.heap.size ∧ Below w.heap.size w w')
    (first | (with_reducible assumption) | (obtain ⟨v0, v1, v2, v3, v4, v5, v6, v7, v8, v9, v10⟩ := ‹_ ∧ _ ∧ _ ∧ _ ∧ _ ∧ _ ∧ _ ∧ _ ∧ _ ∧ _ ∧ Below w.heap.size w _›; exact ⟨(hbl.cell (by show w.heap.size < _; omega)).trans v0, (hbl.cell (by show w.heap.size < _; omega)).trans v1, (hbl.cell (by show w.heap.size < _; omega)).trans v2, (hbl.cell (by show w.heap.size < _; omega)).trans v3, (hbl.cell (by show w.heap.size < _; omega)).trans v4, (hbl.cell (by show w.heap.size + 1 < _; omega)).trans v5, (hbl.cell (by show B < _; omega)).trans v6, Nat.lt_of_lt_of_le v7 hbl.size, Nat.lt_of_lt_of_le v8 hbl.size, Nat.lt_of_lt_of_le v9 hbl.size, Below.trans v10 (hbl.mono v10.size)⟩) | (obtain ⟨v0, v1, v2, v3, v4, v5, v6, v7, v8, v9, v10⟩ := ‹_ ∧ _ ∧ _ ∧ _ ∧ _ ∧ _ ∧ _ ∧ _ ∧ _ ∧ _ ∧ Below w.heap.size w _›; exact ⟨v0, v1, v2, v3, v4, v5, v6, v7, v8, v9, v10.drew⟩) | (obtain ⟨v0, v1, v2, v3, v4, v5, v6, v7, v8, v9, v10⟩ := ‹_ ∧ _ ∧ _ ∧ _ ∧ _ ∧ _ ∧ _ ∧ _ ∧ _ ∧ _ ∧ Below w.heap.size w _›; exact ⟨v0, v1, v2, v3, v4, v5, v6, v7, v8, v9, v10⟩))
    (first | (go_at_call 81; refine (AL.out _).mono ?_; rintro e w9 ⟨rfl, hbl⟩))
  obtain ⟨v0, v1, v2, v3, v4, v5, v6, v7, v8, v9, v10⟩ := ‹_ ∧ _ ∧ _ ∧ _ ∧ _ ∧ _ ∧ _ ∧ _ ∧ _ ∧ _ ∧ Below w.heap.size w _›
  have MM := HM.out.grown v10
  have cD := MM.v D hD
  have cs := MM.st
  have ct := MM.tr
  have zD := MM.fz (1 + D) (by omega)
  have zs := MM.fz 65 (by omega)
  have HMM := Lib.hid MM
  clear MM hS
  go_wp2_with fail
  go_region
  have M2 := Lib.hid (machR_set (x := aluS 9 (f A) (f E)) HMM.out hD).drew
  have G2 := Lib.hid (grown_drew (grown_set (k := 1 + D) (x := .int .u32 (aluS 9 (f A) (f E))) (grown_below (r := some B) v10)))
  clear cA cE cD cs ct zD zs lt HMM
  generalize World.drew (World.setCell _ _ _) = W2 at *
  have ct := M2.out.tr
  have cs := M2.out.st
  have zs := M2.out.fz 65 (by omega)
  clear v0 v1 v2 v3 v4 v5 v6 v7 v8 v9 v10
  go_wp2_with fail
  exact Go.Great.bodyPost_end0 (by rfl) (by rfl) ⟨rfl, machR_step M2.out, grown_set G2.out⟩

set_option maxRecDepth 100000 in
set_option maxHeartbeats 4000000 in
theorem one_9 (B D A E : Nat) (mp : Option Addr) (F : Int) (imm : Int) (f : Nat → Int) (s : Int) (w : World) (hD : D < 64) (hA : A < 64) (hE : E < 64) (hs : 0 ≤ s ∧ s ≤ 1000) (hm : MachR B mp F f s w) (hf : WordsF f) :
    Calls Try.prog 53 #[.pointer (some ⟨B, 0, none⟩), .agg #[.int .i64 9, .int .i64 D, .int .i64 A, .int .i64 E, .int .i32 imm]] w fun e w' => e = .returned (.tuple #[]) ∧ MachR B mp F (upd f D (aluS 6 (f A) (f E))) (s + 1) w' ∧ w.grownBy w' (some B) := by
  have cA := hm.v A hA
  have cE := hm.v E hE
  have cD := hm.v D hD
  have cs := hm.st
  have ct := hm.tr
  have zD := hm.fz (1 + D) (by omega)
  have zs := hm.fz 65 (by omega)
  have lt := hm.lt
  have gA : (A : Int) < 64 := by omega
  have gE : (E : Int) < 64 := by omega
  have gD : (D : Int) < 64 := by omega
  have pA : (0 : Int) ≤ (A : Int) := by omega
  have pE : (0 : Int) ≤ (E : Int) := by omega
  have pD : (0 : Int) ≤ (D : Int) := by omega
  have us := IntWalk.i64_in (s + 1) (by omega)
  have fA := hf A
  have fE := hf E
  have AL := Lib.hid (fun w => alu_any 6 (f A) (f E) w (by omega) (by omega) (by omega) (by omega) (by omega) (by omega))
  have HM := Lib.hid hm
  have HF := Lib.hid hf
  have HFA := Lib.hid fA
  have HFE := Lib.hid fE
  clear hm hf fA fE
  go_enter Try.func53, Try.ntmps53
  go_wp2_with fail
  go_region
  go_wp2_with fail
  obtain ⟨W, hW⟩ : ∃ W : World, ((w.alloc (.cells #[.int .i64 9, .int .i64 D, .int .i64 A, .int .i64 E, .int .i32 imm] 29)).alloc (.cells #[.int .i64 0, .int .i64 0, .int .i64 0, .int .i64 1, .int .i64 2, .int .i64 11, .int .i64 12, .int .i64 10, .int .i64 9, .int .i64 6, .int .i64 4, .int .i64 5, .int .i64 16, .int .i64 1, .int .i64 3, .int .i64 7, .int .i64 8] 3)).drew = W := ⟨_, rfl⟩
  have hb0 : Below w.heap.size w W := by subst hW; go_grown
  have hS : W.cell? ⟨w.heap.size, 0, none⟩ = some (.int .i64 9) ∧ W.cell? ⟨w.heap.size, 1, none⟩ = some (.int .i64 (D : Int)) ∧ W.cell? ⟨w.heap.size, 2, none⟩ = some (.int .i64 (A : Int)) ∧ W.cell? ⟨w.heap.size, 3, none⟩ = some (.int .i64 (E : Int)) ∧ W.cell? ⟨w.heap.size, 4, none⟩ = some (.int .i32 imm) ∧ W.cell? ⟨w.heap.size + 1, 9, none⟩ = some (.int .i64 6) ∧ W.cell? ⟨B, 1 + A, none⟩ = some (.int .u32 (f A)) ∧ B < W.heap.size ∧ w.heap.size < W.heap.size ∧ w.heap.size + 1 < W.heap.size ∧ Below w.heap.size w W := by
    refine ⟨by subst hW; simp, by subst hW; simp, by subst hW; simp, by subst hW; simp, by subst hW; simp, by subst hW; simp, (hb0.cell (by exact lt)).trans cA, Nat.lt_of_lt_of_le lt hb0.size, by subst hW; simp; omega, by subst hW; simp, hb0⟩
  rw [hW]
  clear hW hb0
  go_region_held3 (fun w' => w'.cell? ⟨w.heap.size, 0, none⟩ = some (.int .i64 9) ∧ w'.cell? ⟨w.heap.size, 1, none⟩ = some (.int .i64 (D : Int)) ∧ w'.cell? ⟨w.heap.size, 2, none⟩ = some (.int .i64 (A : Int)) ∧ w'.cell? ⟨w.heap.size, 3, none⟩ = some (.int .i64 (E : Int)) ∧ w'.cell? ⟨w.heap.size, 4, none⟩ = some (.int .i32 imm) ∧ w'.cell? ⟨w.heap.size + 1, 9, none⟩ = some (.int .i64 6) ∧ w'.cell? ⟨B, 1 + A, none⟩ = some (.int .u32 (f A)) ∧ B < w'.heap.size ∧ w.heap.size < w'.heap.size ∧ w.heap.size + 1 < w'.heap.size ∧ Below w.heap.size w w')
    (first | (with_reducible assumption) | (obtain ⟨v0, v1, v2, v3, v4, v5, v6, v7, v8, v9, v10⟩ := ‹_ ∧ _ ∧ _ ∧ _ ∧ _ ∧ _ ∧ _ ∧ _ ∧ _ ∧ _ ∧ Below w.heap.size w _›; exact ⟨(hbl.cell (by show w.heap.size < _; omega)).trans v0, (hbl.cell (by show w.heap.size < _; omega)).trans v1, (hbl.cell (by show w.heap.size < _; omega)).trans v2, (hbl.cell (by show w.heap.size < _; omega)).trans v3, (hbl.cell (by show w.heap.size < _; omega)).trans v4, (hbl.cell (by show w.heap.size + 1 < _; omega)).trans v5, (hbl.cell (by show B < _; omega)).trans v6, Nat.lt_of_lt_of_le v7 hbl.size, Nat.lt_of_lt_of_le v8 hbl.size, Nat.lt_of_lt_of_le v9 hbl.size, Below.trans v10 (hbl.mono v10.size)⟩) | (obtain ⟨v0, v1, v2, v3, v4, v5, v6, v7, v8, v9, v10⟩ := ‹_ ∧ _ ∧ _ ∧ _ ∧ _ ∧ _ ∧ _ ∧ _ ∧ _ ∧ _ ∧ Below w.heap.size w _›; exact ⟨v0, v1, v2, v3, v4, v5, v6, v7, v8, v9, v10.drew⟩) | (obtain ⟨v0, v1, v2, v3, v4, v5, v6, v7, v8, v9, v10⟩ := ‹_ ∧ _ ∧ _ ∧ _ ∧ _ ∧ _ ∧ _ ∧ _ ∧ _ ∧ _ ∧ Below w.heap.size w _›; exact ⟨v0, v1, v2, v3, v4, v5, v6, v7, v8, v9, v10⟩))
    (first | (go_at_call 81; refine (AL.out _).mono ?_; rintro e w9 ⟨rfl, hbl⟩))
  obtain ⟨v0, v1, v2, v3, v4, v5, v6, v7, v8, v9, v10⟩ := ‹_ ∧ _ ∧ _ ∧ _ ∧ _ ∧ _ ∧ _ ∧ _ ∧ _ ∧ _ ∧ Below w.heap.size w _›
  have MM := HM.out.grown v10
  have cD := MM.v D hD
  have cs := MM.st
  have ct := MM.tr
  have zD := MM.fz (1 + D) (by omega)
  have zs := MM.fz 65 (by omega)
  have HMM := Lib.hid MM
  clear MM hS
  go_wp2_with fail
  go_region
  have M2 := Lib.hid (machR_set (x := aluS 6 (f A) (f E)) HMM.out hD).drew
  have G2 := Lib.hid (grown_drew (grown_set (k := 1 + D) (x := .int .u32 (aluS 6 (f A) (f E))) (grown_below (r := some B) v10)))
  clear cA cE cD cs ct zD zs lt HMM
  generalize World.drew (World.setCell _ _ _) = W2 at *
  have ct := M2.out.tr
  have cs := M2.out.st
  have zs := M2.out.fz 65 (by omega)
  clear v0 v1 v2 v3 v4 v5 v6 v7 v8 v9 v10
  go_wp2_with fail
  exact Go.Great.bodyPost_end0 (by rfl) (by rfl) ⟨rfl, machR_step M2.out, grown_set G2.out⟩
end Go.Proofs.Ytghclbeoabkgcaa
