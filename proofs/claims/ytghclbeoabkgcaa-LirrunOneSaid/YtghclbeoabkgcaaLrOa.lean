/- Contract of one step of the document's machine for loop programs (pintleref16.one). -/
import Derived.Test.YtghclbeoabkgcaaOpen
import Derived.Test.YtghclbeoabkgcaaGA
import Derived.WalkSpells
import Derived.WalkSmall
import Derived.Handy
import Derived.Lib.Hide
import Derived.BigQuiet
import Derived.Laws.StructEq
import Derived.Deep.QuietTactic
import Derived.OwnWalk
import Derived.Deep.OwnRows
import Derived.BigRegion
import Derived.Great.Walk
import Derived.Deep.RegionHeld3
namespace Go.Proofs.Ytghclbeoabkgcaa
open Go Go.RowKit Pl
set_option linter.unusedVariables false

/-- the machine in its block: a memory, variables, steps, fuel, no trap -/
structure MachR (B : Nat) (mp : Option Addr) (F : Int) (f : Nat → Int) (s : Int) (w : World) : Prop where
  v : ∀ k, k < 64 → w.cell? ⟨B, 1 + k, none⟩ = some (.int .u32 (f k))
  st : w.cell? ⟨B, 65, none⟩ = some (.int .i64 s)
  fu : w.cell? ⟨B, 66, none⟩ = some (.int .i64 F)
  tr : w.cell? ⟨B, 67, none⟩ = some (.int .i64 0)
  fz : ∀ k, k < 68 → w.frozen? ⟨B, k, none⟩ = false
  lt : B < w.heap.size
  m : w.cell? ⟨B, 0, none⟩ = some (.pointer mp)
theorem alu_any (op a b : Int) (w : World) (p0 : 1 ≤ op) (p1 : op ≤ 18) (h0 : 0 ≤ a) (h1 : a < 4294967296) (g0 : 0 ≤ b) (g1 : b < 4294967296) :
    Calls Try.prog 81 #[.int .i64 op, .int .u32 a, .int .u32 b] w fun e w' => e = .returned (.tuple #[.int .u32 (aluS op a b), .bool true]) ∧ Below w.heap.size w w' := by
  refine (ref1_alu op a b w p0 p1 h0 h1 g0 g1).mono ?_
  rintro e w' ⟨rfl, n, rfl⟩
  exact ⟨rfl, (Below.refl _ _).trans ⟨rfl, rfl, rfl, Nat.le_refl _, fun _ _ => rfl⟩⟩
theorem MachR.grown {B : Nat} {mp : Option Addr} {F : Int} {f : Nat → Int} {s : Int} {w w' : World} (h : MachR B mp F f s w) (hb : Below w.heap.size w w') : MachR B mp F f s w' :=
  ⟨fun k hk => (hb.cell (by exact h.lt)).trans (h.v k hk), (hb.cell (by exact h.lt)).trans h.st, (hb.cell (by exact h.lt)).trans h.fu, (hb.cell (by exact h.lt)).trans h.tr, fun k hk => (hb.frozen (by exact h.lt)).trans (h.fz k hk), Nat.lt_of_lt_of_le h.lt hb.size, (hb.cell (by exact h.lt)).trans h.m⟩
theorem frozen_set {w : World} {a b : Addr} {x : Value} : (w.setCell a x).frozen? b = w.frozen? b := World.frozen?_setCell ..
theorem machR_set {B D : Nat} {mp : Option Addr} {F : Int} {f : Nat → Int} {s x : Int} {w : World} (h : MachR B mp F f s w) (hD : D < 64) : MachR B mp F (upd f D x) s (w.setCell ⟨B, 1 + D, none⟩ (.int .u32 x)) := by
  have ne : ∀ k, k ≠ 1 + D → (⟨B, 1 + D, none⟩ : Addr) ≠ ⟨B, k, none⟩ := fun k hk e => hk (by cases e; rfl)
  refine ⟨fun k hk => ?_, ?_, ?_, ?_, fun k hk => ?_, ?_, ?_⟩
  · unfold upd
    by_cases g : k = D
    · subst g; rw [if_pos rfl]; exact World.cell?_setCell_same _ _ _ (h.v k hk)
    · rw [if_neg g, World.cell?_setCell_other (h := ne _ (by omega))]; exact h.v k hk
  · rw [World.cell?_setCell_other (h := ne _ (by omega))]; exact h.st
  · rw [World.cell?_setCell_other (h := ne _ (by omega))]; exact h.fu
  · rw [World.cell?_setCell_other (h := ne _ (by omega))]; exact h.tr
  · rw [frozen_set]; exact h.fz k hk
  · rw [World.size_setCell]; exact h.lt
  · rw [World.cell?_setCell_other (h := ne _ (by omega))]; exact h.m
theorem machR_step {B : Nat} {mp : Option Addr} {F : Int} {f : Nat → Int} {s t : Int} {w : World} (h : MachR B mp F f s w) : MachR B mp F f t (w.setCell ⟨B, 65, none⟩ (.int .i64 t)) := by
  have ne : ∀ k, k ≠ 65 → (⟨B, 65, none⟩ : Addr) ≠ ⟨B, k, none⟩ := fun k hk e => hk (by cases e; rfl)
  refine ⟨fun k hk => ?_, ?_, ?_, ?_, fun k hk => ?_, ?_, ?_⟩
  · rw [World.cell?_setCell_other (h := ne _ (by omega))]; exact h.v k hk
  · exact World.cell?_setCell_same _ _ _ h.st
  · rw [World.cell?_setCell_other (h := ne _ (by omega))]; exact h.fu
  · rw [World.cell?_setCell_other (h := ne _ (by omega))]; exact h.tr
  · rw [frozen_set]; exact h.fz k hk
  · rw [World.size_setCell]; exact h.lt
  · rw [World.cell?_setCell_other (h := ne _ (by omega))]; exact h.m
theorem MachR.drew {B : Nat} {mp : Option Addr} {F : Int} {f : Nat → Int} {s : Int} {w : World} (h : MachR B mp F f s w) : MachR B mp F f s w.drew := ⟨h.v, h.st, h.fu, h.tr, h.fz, h.lt, h.m⟩
theorem grown_below {w w' : World} {r : Option Nat} (h : Below w.heap.size w w') : w.grownBy w' r := ⟨h.os, h.tape, h.output, h.size, fun i hi _ => h.block i hi⟩
theorem grown_set {w w1 : World} {B k : Nat} {x : Value} (h : w.grownBy w1 (some B)) : w.grownBy (w1.setCell ⟨B, k, none⟩ x) (some B) := by
  refine ⟨h.os, h.tape, h.output, by rw [World.size_setCell]; exact h.size, fun i hi hne => ?_⟩
  rw [← h.block i hi hne]
  exact Below.heap_setCell _ _ _ _ (fun e => hne (by rw [e]))
theorem grown_alloc {w w1 : World} {r : Option Nat} (h : w.grownBy w1 r) (o : Obj) : w.grownBy (w1.alloc o) r := by
  refine ⟨h.os, h.tape, h.output, ?_, fun i hi hne => ?_⟩
  · have := h.size; simp; omega
  · rw [heap_alloc_old _ _ (by have := h.size; omega)]; exact h.block i hi hne
theorem grown_drew {w w1 : World} {r : Option Nat} (h : w.grownBy w1 r) : w.grownBy w1.drew r := ⟨h.os, h.tape, h.output, h.size, h.block⟩
set_option maxRecDepth 100000 in
set_option maxHeartbeats 4000000 in
theorem one_1 (B D A E : Nat) (mp : Option Addr) (F : Int) (imm : Int) (f : Nat → Int) (s : Int) (w : World) (hD : D < 64) (hA : A < 64) (hE : E < 64) (hs : 0 ≤ s ∧ s ≤ 1000) (hm : MachR B mp F f s w) (hf : WordsF f) :
    Calls Try.prog 53 #[.pointer (some ⟨B, 0, none⟩), .agg #[.int .i64 1, .int .i64 D, .int .i64 A, .int .i64 E, .int .i32 imm]] w fun e w' => e = .returned (.tuple #[]) ∧ MachR B mp F (upd f D (imm % 4294967296)) (s + 1) w' ∧ w.grownBy w' (some B) := by
  have cA := hm.v A hA
  have cD := hm.v D hD
  have zD := hm.fz (1 + D) (by omega)
  have lt := hm.lt
  have gA : (A : Int) < 64 := by omega
  have gD : (D : Int) < 64 := by omega
  have pA : (0 : Int) ≤ (A : Int) := by omega
  have pD : (0 : Int) ≤ (D : Int) := by omega
  have us := IntWalk.i64_in (s + 1) (by omega)
  have HM := Lib.hid hm
  have M2 := Lib.hid ((machR_set (x := imm % 4294967296) hm hD).grown (w' := (w.setCell ⟨B, 1 + D, none⟩ (.int .u32 (imm % 4294967296))).alloc (.cells #[.int .i64 1, .int .i64 D, .int .i64 A, .int .i64 E, .int .i32 imm] 29)) ((Below.refl _ _).alloc (Nat.le_refl _) _)).drew
  have G2 := Lib.hid (grown_drew (grown_alloc (grown_set (k := 1 + D) (x := .int .u32 (imm % 4294967296)) (World.grownBy.refl w (some B))) (.cells #[.int .i64 1, .int .i64 D, .int .i64 A, .int .i64 E, .int .i32 imm] 29)))
  clear hm hf
  go_enter Try.func53, Try.ntmps53
  go_wp2_with fail
  go_region
  generalize World.drew (World.alloc _ _) = W2 at *
  have ct := M2.out.tr
  have cs := M2.out.st
  have zs := M2.out.fz 65 (by omega)
  clear cA cD zD
  go_wp2_with fail
  exact Go.Great.bodyPost_end0 (by rfl) (by rfl) ⟨rfl, machR_step M2.out, grown_set G2.out⟩

set_option maxRecDepth 100000 in
set_option maxHeartbeats 4000000 in
theorem one_2 (B D A E : Nat) (mp : Option Addr) (F : Int) (imm : Int) (f : Nat → Int) (s : Int) (w : World) (hD : D < 64) (hA : A < 64) (hE : E < 64) (hs : 0 ≤ s ∧ s ≤ 1000) (hm : MachR B mp F f s w) (hf : WordsF f) :
    Calls Try.prog 53 #[.pointer (some ⟨B, 0, none⟩), .agg #[.int .i64 2, .int .i64 D, .int .i64 A, .int .i64 E, .int .i32 imm]] w fun e w' => e = .returned (.tuple #[]) ∧ MachR B mp F (upd f D (f A)) (s + 1) w' ∧ w.grownBy w' (some B) := by
  have cA := hm.v A hA
  have cD := hm.v D hD
  have zD := hm.fz (1 + D) (by omega)
  have lt := hm.lt
  have gA : (A : Int) < 64 := by omega
  have gD : (D : Int) < 64 := by omega
  have pA : (0 : Int) ≤ (A : Int) := by omega
  have pD : (0 : Int) ≤ (D : Int) := by omega
  have us := IntWalk.i64_in (s + 1) (by omega)
  have HM := Lib.hid hm
  have M2 := Lib.hid ((machR_set (x := f A) hm hD).grown (w' := (w.setCell ⟨B, 1 + D, none⟩ (.int .u32 (f A))).alloc (.cells #[.int .i64 2, .int .i64 D, .int .i64 A, .int .i64 E, .int .i32 imm] 29)) ((Below.refl _ _).alloc (Nat.le_refl _) _)).drew
  have G2 := Lib.hid (grown_drew (grown_alloc (grown_set (k := 1 + D) (x := .int .u32 (f A)) (World.grownBy.refl w (some B))) (.cells #[.int .i64 2, .int .i64 D, .int .i64 A, .int .i64 E, .int .i32 imm] 29)))
  clear hm hf
  go_enter Try.func53, Try.ntmps53
  go_wp2_with fail
  go_region
  generalize World.drew (World.alloc _ _) = W2 at *
  have ct := M2.out.tr
  have cs := M2.out.st
  have zs := M2.out.fz 65 (by omega)
  clear cA cD zD
  go_wp2_with fail
  exact Go.Great.bodyPost_end0 (by rfl) (by rfl) ⟨rfl, machR_step M2.out, grown_set G2.out⟩

set_option maxRecDepth 100000 in
set_option maxHeartbeats 4000000 in
theorem one_3 (B D A E : Nat) (mp : Option Addr) (F : Int) (imm : Int) (f : Nat → Int) (s : Int) (w : World) (hD : D < 64) (hA : A < 64) (hE : E < 64) (hs : 0 ≤ s ∧ s ≤ 1000) (hm : MachR B mp F f s w) (hf : WordsF f) :
    Calls Try.prog 53 #[.pointer (some ⟨B, 0, none⟩), .agg #[.int .i64 3, .int .i64 D, .int .i64 A, .int .i64 E, .int .i32 imm]] w fun e w' => e = .returned (.tuple #[]) ∧ MachR B mp F (upd f D (aluS 1 (f A) (f E))) (s + 1) w' ∧ w.grownBy w' (some B) := by
  have cA := hm.v A hA
  have cE := hm.v E hE
  have cD := hm.v D hD
  have cs := hm.st
  have ct := hm.tr
  have zD := hm.fz (1 + D) (by omega)
  have zs := hm.fz 65 (by omega)
  have lt := hm.lt
  have gA : (A : Int) < 64 := by omega
  have gE : (E : Int) < 64 := by omega
  have gD : (D : Int) < 64 := by omega
  have pA : (0 : Int) ≤ (A : Int) := by omega
  have pE : (0 : Int) ≤ (E : Int) := by omega
  have pD : (0 : Int) ≤ (D : Int) := by omega
  have us := IntWalk.i64_in (s + 1) (by omega)
  have fA := hf A
  have fE := hf E
  have AL := Lib.hid (fun w => alu_any 1 (f A) (f E) w (by omega) (by omega) (by omega) (by omega) (by omega) (by omega))
  have HM := Lib.hid hm
  have HF := Lib.hid hf
  have HFA := Lib.hid fA
  have HFE := Lib.hid fE
  clear hm hf fA fE
  go_enter Try.func53, Try.ntmps53
  go_wp2_with fail
  go_region
  go_wp2_with fail
  obtain ⟨W, hW⟩ : ∃ W : World, ((w.alloc (.cells #[.int .i64 3, .int .i64 D, .int .i64 A, .int .i64 E, .int .i32 imm] 29)).alloc (.cells #[.int .i64 0, .int .i64 0, .int .i64 0, .int .i64 1, .int .i64 2, .int .i64 11, .int .i64 12, .int .i64 10, .int .i64 9, .int .i64 6, .int .i64 4, .int .i64 5, .int .i64 16, .int .i64 1, .int .i64 3, .int .i64 7, .int .i64 8] 3)).drew = W := ⟨_, rfl⟩
  have hb0 : Below w.heap.size w W := by subst hW; go_grown
  have hS : W.cell? ⟨w.heap.size, 0, none⟩ = some (.int .i64 3) ∧ W.cell? ⟨w.heap.size, 1, none⟩ = some (.int .i64 (D : Int)) ∧ W.cell? ⟨w.heap.size, 2, none⟩ = some (.int .i64 (A : Int)) ∧ W.cell? ⟨w.heap.size, 3, none⟩ = some (.int .i64 (E : Int)) ∧ W.cell? ⟨w.heap.size, 4, none⟩ = some (.int .i32 imm) ∧ W.cell? ⟨w.heap.size + 1, 3, none⟩ = some (.int .i64 1) ∧ W.cell? ⟨B, 1 + A, none⟩ = some (.int .u32 (f A)) ∧ B < W.heap.size ∧ w.heap.size < W.heap.size ∧ w.heap.size + 1 < W.heap.size ∧ Below w.heap.size w W := by
    refine ⟨by subst hW; simp, by subst hW; simp, by subst hW; simp, by subst hW; simp, by subst hW; simp, by subst hW; simp, (hb0.cell (by exact lt)).trans cA, Nat.lt_of_lt_of_le lt hb0.size, by subst hW; simp; omega, by subst hW; simp, hb0⟩
  rw [hW]
  clear hW hb0
  go_region_held3 (fun w' => w'.cell? ⟨w.heap.size, 0, none⟩ = some (.int .i64 3) ∧ w'.cell? ⟨w.heap.size, 1, none⟩ = some (.int .i64 (D : Int)) ∧ w'.cell? ⟨w.heap.size, 2, none⟩ = some (.int .i64 (A : Int)) ∧ w'.cell? ⟨w.heap.size, 3, none⟩ = some (.int .i64 (E : Int)) ∧ w'.cell? ⟨w.heap.size, 4, none⟩ = some (.int .i32 imm) ∧ w'.cell? ⟨w.heap.size + 1, 3, none⟩ = some (.int .i64 1) ∧ w'.cell? ⟨B, 1 + A, none⟩ = some (.int .u32 (f A)) ∧ B < w'.heap.size ∧ w.heap.size < w'.heap.size ∧ w.heap.size + 1 < w'.heap.size ∧ Below w.heap.size w w')
    (first | (with_reducible assumption) | (obtain ⟨v0, v1, v2, v3, v4, v5, v6, v7, v8, v9, v10⟩ := ‹_ ∧ _ ∧ _ ∧ _ ∧ _ ∧ _ ∧ _ ∧ _ ∧ _ ∧ _ ∧ Below w.heap.size w _›; exact ⟨(hbl.cell (by show w.heap.size < _; omega)).trans v0, (hbl.cell (by show w.heap.size < _; omega)).trans v1, (hbl.cell (by show w.heap.size < _; omega)).trans v2, (hbl.cell (by show w.heap.size < _; omega)).trans v3, (hbl.cell (by show w.heap.size < _; omega)).trans v4, (hbl.cell (by show w.heap.size + 1 < _; omega)).trans v5, (hbl.cell (by show B < _; omega)).trans v6, Nat.lt_of_lt_of_le v7 hbl.size, Nat.lt_of_lt_of_le v8 hbl.size, Nat.lt_of_lt_of_le v9 hbl.size, Below.trans v10 (hbl.mono v10.size)⟩) | (obtain ⟨v0, v1, v2, v3, v4, v5, v6, v7, v8, v9, v10⟩ := ‹_ ∧ _ ∧ _ ∧ _ ∧ _ ∧ _ ∧ _ ∧ _ ∧ _ ∧ _ ∧ Below w.heap.size w _›; exact ⟨v0, v1, v2, v3, v4, v5, v6, v7, v8, v9, v10.drew⟩) | (obtain ⟨v0, v1, v2, v3, v4, v5, v6, v7, v8, v9, v10⟩ := ‹_ ∧ _ ∧ _ ∧ _ ∧ _ ∧ _ ∧ _ ∧ _ ∧ _ ∧ _ ∧ Below w.heap.size w _›; exact ⟨v0, v1, v2, v3, v4, v5, v6, v7, v8, v9, v10⟩))
    (first | (go_at_call 81; refine (AL.out _).mono ?_; rintro e w9 ⟨rfl, hbl⟩))
  obtain ⟨v0, v1, v2, v3, v4, v5, v6, v7, v8, v9, v10⟩ := ‹_ ∧ _ ∧ _ ∧ _ ∧ _ ∧ _ ∧ _ ∧ _ ∧ _ ∧ _ ∧ Below w.heap.size w _›
  have MM := HM.out.grown v10
  have cD := MM.v D hD
  have cs := MM.st
  have ct := MM.tr
  have zD := MM.fz (1 + D) (by omega)
  have zs := MM.fz 65 (by omega)
  have HMM := Lib.hid MM
  clear MM hS
  go_wp2_with fail
  go_region
  have M2 := Lib.hid (machR_set (x := aluS 1 (f A) (f E)) HMM.out hD).drew
  have G2 := Lib.hid (grown_drew (grown_set (k := 1 + D) (x := .int .u32 (aluS 1 (f A) (f E))) (grown_below (r := some B) v10)))
  clear cA cE cD cs ct zD zs lt HMM
  generalize World.drew (World.setCell _ _ _) = W2 at *
  have ct := M2.out.tr
  have cs := M2.out.st
  have zs := M2.out.fz 65 (by omega)
  clear v0 v1 v2 v3 v4 v5 v6 v7 v8 v9 v10
  go_wp2_with fail
  exact Go.Great.bodyPost_end0 (by rfl) (by rfl) ⟨rfl, machR_step M2.out, grown_set G2.out⟩

set_option maxRecDepth 100000 in
set_option maxHeartbeats 4000000 in
theorem one_4 (B D A E : Nat) (mp : Option Addr) (F : Int) (imm : Int) (f : Nat → Int) (s : Int) (w : World) (hD : D < 64) (hA : A < 64) (hE : E < 64) (hs : 0 ≤ s ∧ s ≤ 1000) (hm : MachR B mp F f s w) (hf : WordsF f) :
    Calls Try.prog 53 #[.pointer (some ⟨B, 0, none⟩), .agg #[.int .i64 4, .int .i64 D, .int .i64 A, .int .i64 E, .int .i32 imm]] w fun e w' => e = .returned (.tuple #[]) ∧ MachR B mp F (upd f D (aluS 2 (f A) (f E))) (s + 1) w' ∧ w.grownBy w' (some B) := by
  have cA := hm.v A hA
  have cE := hm.v E hE
  have cD := hm.v D hD
  have cs := hm.st
  have ct := hm.tr
  have zD := hm.fz (1 + D) (by omega)
  have zs := hm.fz 65 (by omega)
  have lt := hm.lt
  have gA : (A : Int) < 64 := by omega
  have gE : (E : Int) < 64 := by omega
  have gD : (D : Int) < 64 := by omega
  have pA : (0 : Int) ≤ (A : Int) := by omega
  have pE : (0 : Int) ≤ (E : Int) := by omega
  have pD : (0 : Int) ≤ (D : Int) := by omega
  have us := IntWalk.i64_in (s + 1) (by omega)
  have fA := hf A
  have fE := hf E
  have AL := Lib.hid (fun w => alu_any 2 (f A) (f E) w (by omega) (by omega) (by omega) (by omega) (by omega) (by omega))
  have HM := Lib.hid hm
  have HF := Lib.hid hf
  have HFA := Lib.hid fA
  have HFE := Lib.hid fE
  clear hm hf fA fE
  go_enter Try.func53, Try.ntmps53
  go_wp2_with fail
  go_region
  go_wp2_with fail
  obtain ⟨W, hW⟩ : ∃ W : World, ((w.alloc (.cells #[.int .i64 4, .int .i64 D, .int .i64 A, .int .i64 E, .int .i32 imm] 29)).alloc (.cells #[.int .i64 0, .int .i64 0, .int .i64 0, .int .i64 1, .int .i64 2, .int .i64 11, .int .i64 12, .int .i64 10, .int .i64 9, .int .i64 6, .int .i64 4, .int .i64 5, .int .i64 16, .int .i64 1, .int .i64 3, .int .i64 7, .int .i64 8] 3)).drew = W := ⟨_, rfl⟩
  have hb0 : Below w.heap.size w W := by subst hW; go_grown
  have hS : W.cell? ⟨w.heap.size, 0, none⟩ = some (.int .i64 4) ∧ W.cell? ⟨w.heap.size, 1, none⟩ = some (.int .i64 (D : Int)) ∧ W.cell? ⟨w.heap.size, 2, none⟩ = some (.int .i64 (A : Int)) ∧ W.cell? ⟨w.heap.size, 3, none⟩ = some (.int .i64 (E : Int)) ∧ W.cell? ⟨w.heap.size, 4, none⟩ = some (.int .i32 imm) ∧ W.cell? ⟨w.heap.size + 1, 4, none⟩ = some (.int .i64 2) ∧ W.cell? ⟨B, 1 + A, none⟩ = some (.int .u32 (f A)) ∧ B < W.heap.size ∧ w.heap.size < W.heap.size ∧ w.heap.size + 1 < W.heap.size ∧ Below w.heap.size w W := by
    refine ⟨by subst hW; simp, by subst hW; simp, by subst hW; simp, by subst hW; simp, by subst hW; simp, by subst hW; simp, (hb0.cell (by exact lt)).trans cA, Nat.lt_of_lt_of_le lt hb0.size, by subst hW; simp; omega, by subst hW; simp, hb0⟩
  rw [hW]
  clear hW hb0
  go_region_held3 (fun w' => w'.cell? ⟨w.heap.size, 0, none⟩ = some (.int .i64 4) ∧ w'.cell? ⟨w.heap.size, 1, none⟩ = some (.int .i64 (D : Int)) ∧ w'.cell? ⟨w.heap.size, 2, none⟩ = some (.int .i64 (A : Int)) ∧ w'.cell? ⟨w.heap.size, 3, none⟩ = some (.int .i64 (E : Int)) ∧ w'.cell? ⟨w.heap.size, 4, none⟩ = some (.int .i32 imm) ∧ w'.cell? ⟨w.heap.size + 1, 4, none⟩ = some (.int .i64 2) ∧ w'.cell? ⟨B, 1 + A, none⟩ = some (.int .u32 (f A)) ∧ B < w'.heap.size ∧ w.heap.size < w'.heap.size ∧ w.heap.size + 1 < w'.heap.size ∧ Below w.heap.size w w')
    (first | (with_reducible assumption) | (obtain ⟨v0, v1, v2, v3, v4, v5, v6, v7, v8, v9, v10⟩ := ‹_ ∧ _ ∧ _ ∧ _ ∧ _ ∧ _ ∧ _ ∧ _ ∧ _ ∧ _ ∧ Below w.heap.size w _›; exact ⟨(hbl.cell (by show w.heap.size < _; omega)).trans v0, (hbl.cell (by show w.heap.size < _; omega)).trans v1, (hbl.cell (by show w.heap.size < _; omega)).trans v2, (hbl.cell (by show w.heap.size < _; omega)).trans v3, (hbl.cell (by show w.heap.size < _; omega)).trans v4, (hbl.cell (by show w.heap.size + 1 < _; omega)).trans v5, (hbl.cell (by show B < _; omega)).trans v6, Nat.lt_of_lt_of_le v7 hbl.size, Nat.lt_of_lt_of_le v8 hbl.size, Nat.lt_of_lt_of_le v9 hbl.size, Below.trans v10 (hbl.mono v10.size)⟩) | (obtain ⟨v0, v1, v2, v3, v4, v5, v6, v7, v8, v9, v10⟩ := ‹_ ∧ _ ∧ _ ∧ _ ∧ _ ∧ _ ∧ _ ∧ _ ∧ _ ∧ _ ∧ Below w.heap.size w _›; exact ⟨v0, v1, v2, v3, v4, v5, v6, v7, v8, v9, v10.drew⟩) | (obtain ⟨v0, v1, v2, v3, v4, v5, v6, v7, v8, v9, v10⟩ := ‹_ ∧ _ ∧ _ ∧ _ ∧ _ ∧ _ ∧ _ ∧ _ ∧ _ ∧ _ ∧ Below w.heap.size w _›; exact ⟨v0, v1, v2, v3, v4, v5, v6, v7, v8, v9, v10⟩))
    (first | (go_at_call 81; refine (AL.out _).mono ?_; rintro e w9 ⟨rfl, hbl⟩))
  obtain ⟨v0, v1, v2, v3, v4, v5, v6, v7, v8, v9, v10⟩ := ‹_ ∧ _ ∧ _ ∧ _ ∧ _ ∧ _ ∧ _ ∧ _ ∧ _ ∧ _ ∧ Below w.heap.size w _›
  have MM := HM.out.grown v10
  have cD := MM.v D hD
  have cs := MM.st
  have ct := MM.tr
  have zD := MM.fz (1 + D) (by omega)
  have zs := MM.fz 65 (by omega)
  have HMM := Lib.hid MM
  clear MM hS
  go_wp2_with fail
  go_region
  have M2 := Lib.hid (machR_set (x := aluS 2 (f A) (f E)) HMM.out hD).drew
  have G2 := Lib.hid (grown_drew (grown_set (k := 1 + D) (x := .int .u32 (aluS 2 (f A) (f E))) (grown_below (r := some B) v10)))
  clear cA cE cD cs ct zD zs lt HMM
  generalize World.drew (World.setCell _ _ _) = W2 at *
  have ct := M2.out.tr
  have cs := M2.out.st
  have zs := M2.out.fz 65 (by omega)
  clear v0 v1 v2 v3 v4 v5 v6 v7 v8 v9 v10
  go_wp2_with fail
  exact Go.Great.bodyPost_end0 (by rfl) (by rfl) ⟨rfl, machR_step M2.out, grown_set G2.out⟩
end Go.Proofs.Ytghclbeoabkgcaa
